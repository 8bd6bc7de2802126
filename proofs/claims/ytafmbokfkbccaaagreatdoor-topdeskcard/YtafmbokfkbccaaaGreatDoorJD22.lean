import Derived.Test.YtafmbokfkbccaaaGreatDoorJD15
import Derived.Test.YtafmbokfkbccaaaGreatDoorJD21
import Derived.Test.YtafmbokfkbccaaaGreatDoorJD13
import Derived.Test.YtafmbokfkbccaaaGreatDoorJD16
import Derived.BigQuiet
import Derived.Test.YtafmbokfkbccaaaGreatDoorJD17
namespace Go.Proofs.YtafmbokfkbccaaaGreatDoor
open Go.RowKit Go.Sort Go.Maps
theorem OwnF.stay {base:Nat} {w w':World} {v:Value} {l:List FactD} (h:OwnF w base v l) (hs:w.heap.size≤w'.heap.size) (hk:∀k,k<w.heap.size→base≤k→w'.heap[k]?=w.heap[k]?):OwnF w' base v l:=by
 obtain⟨xs,ho,hx⟩:=h;refine⟨xs,⟨ho.1,?_⟩,fun i hi'=> ?_⟩
 ·rcases ho.2 with e|⟨g,cap,cur,rfl,hbg,hg,r⟩
  ·exact Or.inl e
  ·exact Or.inr ⟨g,cap,cur,rfl,hbg,by rw[hk g (Array.getElem?_eq_some_iff.1 hg).1 hbg];exact hg,r⟩
 ·obtain⟨c1,s,c2,c3,c4⟩:=hx i hi';exact⟨c1,s,c2,c3.kept' hs fun j hj e=>hk j hj (c4 j e).1,fun j e=>⟨(c4 j e).1,Nat.lt_of_lt_of_le (c4 j e).2.1 hs,(c4 j e).2.2⟩⟩
theorem OwnF.lt {base:Nat} {w:World} {v:Value} {l:List FactD} (h:OwnF w base v l) {k:Nat} (hk:v.ownBlock=some k):base≤k∧k<w.heap.size:=by
 obtain⟨xs,ho,_⟩:=h;exact ho.lt k hk
theorem OwnF.slice {base:Nat} {w:World} {v:Value} {l:List FactD} (h:OwnF w base v l):∃a cap,v=.slice a l.length cap:=by
 obtain⟨xs,ho,_⟩:=h;rcases ho.2 with⟨rfl,e⟩|⟨g,cap,cur,rfl,_⟩
 ·exact⟨none,0,by rw[e]⟩
 ·exact⟨_,cap,rfl⟩
set_option maxHeartbeats 400000 in
theorem ask1 (a:AtomD) (ta:Option Addr) (tn tc:Nat) (w:World):
  Calls Tryz.prog 264 #[.agg #[.bool a.no,.string (bs a.name),.slice ta tn tc]] w fun e w'=>e=.returned (.bool (!a.no))∧Later w w':=by
 obtain⟨no,n,x⟩:=a;dsimp only;generalize bs n=s at*
 go_enter Tryz.func264,Tryz.ntmps264
 go_wp2;go_ret;exact⟨rfl,(Later.refl _).alloc _⟩
set_option maxHeartbeats 1000000 in
theorem indexAtom (v:Value) (l:List AtomD) (w:World) (hv:atomK.sl Anyw w v l):
  Calls Tryz.prog 298 #[v,.func (.func 264) #[] #[]] w fun e w'=>∃n:Int,e=.returned (.int .i64 n)∧decide (0≤n)=l.any (fun a=> !a.no)∧Later w w':=by
 obtain⟨a,cap,rfl⟩:=Kind.slice hv;have HV:=hide hv;have hl:=hv.1.1;clear hv
 go_enter Tryz.func298,Tryz.ntmps298
 go_wp2
 go_loopg [8] l.length (fun k i wr=>∃j:Nat,j+k=l.length∧i=.int .i64 j∧Hid (Later w wr)∧Hid (l.any (fun a=> !a.no)=(l.drop j).any (fun a=> !a.no)))
 case atStart=>exact⟨0,by omega,rfl,Later.refl _,(rfl:_=_)⟩
 case round=>
  obtain⟨j,hj,rfl,HL,HF⟩:=hrel
  by_cases hlt:j<l.length
  ·obtain⟨x,hx⟩:∃x,l[j]?=some x:=⟨_,List.getElem?_eq_getElem hlt⟩;obtain⟨b1,o1,_,rfl,hb1,⟨tv,rfl,htv⟩,hc⟩:=Kind.sl_at HV.out hx;obtain⟨ta,tc,rfl⟩:=Kind.slice htv;have d0:wr.cell? ⟨b1,o1+j*3,none⟩=some (.bool x.no):=by rw[HL.out.cell hb1];exact hc 0 _ rfl
   have d1:wr.cell? ⟨b1,o1+j*3+1,none⟩=some (.string (bs x.name)):=by rw[HL.out.cell hb1];exact hc 1 _ rfl
   have d2:wr.cell? ⟨b1,o1+j*3+2,none⟩=some (.slice ta x.terms.length tc):=by rw[HL.out.cell hb1];exact hc 2 _ rfl
   have HC:=hide (ask1 x ta x.terms.length tc wr);have hd:=any_step hx (fun a=> !a.no);clear hc hx htv;cases hf:x.no
   ·have F:Hid (l.any (fun a=> !a.no)=true):=by show _=_;rw[HF.out,hd,hf];rfl
    rw[hf] at HC d0;clear hd HF hf;generalize bs x.name=nm at*
    go_wp2_with (go_at_call 264;refine HC.out.mono ?_;rintro e w' ⟨rfl,hL⟩;replace hL:=hide hL)
    go_ret;exact⟨_,rfl,by rw[F.out];simp,HL.out.trans (unhide hL)⟩
   ·have F:Hid (l.any (fun a=> !a.no)=(l.drop (j+1)).any (fun a=> !a.no)):=by show _=_;rw[HF.out,hd,hf];rfl
    rw[hf] at HC d0;clear hd HF hf;generalize bs x.name=nm at*
    go_wp2_with (go_at_call 264;refine HC.out.mono ?_;rintro e w' ⟨rfl,hL⟩;replace hL:=hide hL)
    go_roundg (l.length- (j+1))
    case measure=>omega
    case rel=>exact⟨j+1,by omega,by go_num,HL.out.trans (unhide hL),F⟩
  ·have F:Hid (l.any (fun a=> !a.no)=false):=by show _=_;rw[HF.out,List.drop_eq_nil_of_le (by omega)];rfl
   go_wp2;go_ret;exact⟨_,rfl,by rw[F.out];simp,HL.out⟩
set_option maxHeartbeats 400000 in
theorem containsAtom (v:Value) (l:List AtomD) (w:World) (hv:atomK.sl Anyw w v l):
  Calls Tryz.prog 263 #[v,.func (.func 264) #[] #[]] w fun e w'=>e=.returned (.bool (l.any fun a=> !a.no))∧Later w w':=by
 have HI:=hide (indexAtom v l w hv);obtain⟨a,cap,rfl⟩:=Kind.slice hv;clear hv
 go_enter Tryz.func263,Tryz.ntmps263
 go_wp2_with (go_at_call 298;refine HI.out.mono ?_;rintro e w' ⟨n,rfl,hn,hL⟩;replace hn:=hide hn;replace hL:=hide hL)
 go_ret;exact⟨ret_bool (unhide hn),unhide hL⟩
set_option maxRecDepth 100000 in
set_option maxHeartbeats 2000000 in
theorem filledC (head:AtomD) (tv rv:Value) (R:List (List BindD)) (w:World) (ht:termK.sl Anyw w tv head.terms) (hr:listK.sl Anyw w rv R) (hn:R.length≤20000):
  Calls Tryz.prog 266 #[.agg #[.bool head.no,.string (bs head.name),tv],rv] w fun e w'=>∃v',e=.returned v'∧OwnF w' w.heap.size v' (R.filterMap fun l=>fillB head l)∧Later w w':=by
 obtain⟨ta,tc,rfl⟩:=Kind.slice ht;obtain⟨ra,rc,rfl⟩:=Kind.slice hr;have HT:=hide ht;have HRL:=hide hr;clear ht hr;have HL0:Hid (Later w (w.alloc (.cells #[.bool head.no,.string (bs head.name),.slice ta head.terms.length tc] 85))):=(Later.refl w).alloc _;have HB0:Hid ((w.alloc (.cells #[.bool head.no,.string (bs head.name),.slice ta head.terms.length tc] 85)).heap[w.heap.size]?=some (.cells #[.bool head.no,.string (bs head.name),.slice ta head.terms.length tc] 85 (0,0))):=heap_alloc_new w _
 go_enter Tryz.func266,Tryz.ntmps266
 go_wp2
 go_loopg [5,12] R.length (fun g v i wr=>∃j:Nat,j+g=R.length∧i=.int .i64 j∧∃D,Hid (D=(R.take j).filterMap fun l=>fillB head l)∧Hid (OwnF wr (w.heap.size+1) v D)∧Hid (D.length≤j)∧Hid (Later w wr)∧w.heap.size<wr.heap.size∧
  Hid (wr.heap[w.heap.size]?=some (.cells #[.bool head.no,.string (bs head.name),.slice ta head.terms.length tc] 85 (0,0))))
 case atStart=>exact⟨0,by omega,rfl,[],(rfl:_=_),OwnF.nil _ _,(Nat.le_refl _:_≤_),HL0,by simp,HB0⟩
 case round=>
  clear HL0 HB0;obtain⟨j,hj,rfl,D,HD,HO,HDl,HL,hsz,HB⟩:=hrel;obtain⟨va,vc,rfl⟩:=HO.out.slice
  by_cases hlt:j<R.length
  ·obtain⟨l,hx⟩:∃x,R[j]?=some x:=⟨_,List.getElem?_eq_getElem hlt⟩;obtain⟨b1,o1,_,rfl,hb1,⟨lv,rfl,hlv⟩,hc⟩:=Kind.sl_at HRL.out hx;have d0:wr.cell? ⟨b1,o1+j,none⟩=some lv:=by rw[HL.out.cell (p:=⟨b1,o1+j,none⟩) hb1];simpa[slK] using hc 0 _ rfl
   have HLV:=hide hlv;obtain⟨la,lc,rfl⟩:=Kind.slice hlv;have hrr:=HB.out;have r0:wr.cell? ⟨w.heap.size,0,none⟩=some (.bool head.no):=by rw[cell_of_row _ _ _ _ _ _ hrr];rfl
   have r1:wr.cell? ⟨w.heap.size,0+1,none⟩=some (.string (bs head.name)):=by rw[cell_of_row _ _ _ _ _ _ hrr];rfl
   have r2:wr.cell? ⟨w.heap.size,0+2,none⟩=some (.slice ta head.terms.length tc):=by rw[cell_of_row _ _ _ _ _ _ hrr];rfl
   have HFc:=hide (fillL head _ (.slice la l.length lc) l wr (Kind.sl_later HT.out HL.out) (Kind.sl_later HLV.out HL.out));have htk:R.take (j+1)=R.take j++[l]:=by rw[List.take_add_one,hx];rfl
   unfold filled at HFc;clear hc hx hlv hrr;cases hfl:fillB head l with
   |none=>
    rw[hfl] at HFc;have HD':Hid (D=(R.take (j+1)).filterMap fun l=>fillB head l):=by
     show _=_;rw[htk,List.filterMap_append,HD.out];simp only[List.filterMap_cons,hfl,List.filterMap_nil,List.append_nil]
    clear hfl htk;generalize bs head.name=nm at*;generalize head.no=no at*
    go_wp2_with fail
    refine HFc.out.mono ?_;rintro e w3 ⟨f3,rfl,hfv,hL3,_⟩;obtain⟨s,rfl,hs⟩:=hfv;obtain⟨sA',sC',rfl⟩:=sliceStr hs;simp only[Option.isSome_none];have HL3:Hid (Later wr w3):=hL3;clear hs hL3;go_wp2
    go_roundg (R.length- (j+1))
    case measure=>omega
    case rel=>exact⟨j+1,by omega,by go_num,D,HD',HO.out.later (HL3.out.alloc _),(Nat.le_succ_of_le HDl.out:_≤_),HL.out.trans (HL3.out.alloc _),by have:=(HL3.out.alloc (.cells #[.string ByteArray.empty,.slice sA' 0 sC'] 27)).size;have:=HL3.out.size;simp;omega,by show _=_;rw[(HL3.out.alloc _).block hsz];exact HB.out⟩
   |some f=>
    rw[hfl] at HFc;have HD':Hid (D++[f]=(R.take (j+1)).filterMap fun l=>fillB head l):=by
     show _=_;rw[htk,List.filterMap_append,HD.out];simp only[List.filterMap_cons,hfl,List.filterMap_nil]
    clear hfl htk;generalize bs head.name=nm at*;generalize head.no=no at*
    go_wp2_with fail
    refine HFc.out.mono ?_;rintro e w3 ⟨f3,rfl,hfv,hL3,hfar⟩;simp only[Option.isSome_some,Option.getD_some] at hfv⊢;obtain⟨s,rfl,hs⟩:=hfv;obtain⟨_,s',es,hfar⟩:=hfar;simp only[Value.agg.injEq,Array.mk.injEq,List.cons.injEq,and_true] at es;obtain⟨rfl,rfl⟩:=es;obtain⟨sA',sC',rfl⟩:=sliceStr hs;obtain⟨fn,fargs⟩:=f;dsimp only at*;obtain⟨w4,hw4⟩:∃w4,w4=w3.alloc (.cells #[.string fn,.slice sA' fargs.length sC'] 27):=⟨_,rfl⟩;have hL4:Later w3 w4:=by rw[hw4];exact(Later.refl _).alloc _
    have hr4:w4.heap[w3.heap.size]?=some (.cells #[.string fn,.slice sA' fargs.length sC'] 27 (0,0)):=by rw[hw4];exact heap_alloc_new _ _
    have hz4:w4.heap.size=w3.heap.size+1:=by rw[hw4];simp
    have hL04:Later w w4:=HL.out.trans (hL3.trans hL4);have hO4:OwnF w4 (w.heap.size+1) (.slice va D.length vc) D:=HO.out.later (hL3.trans hL4);obtain⟨v5,w5,hrun,hO5,hg5,hd5⟩:=hO4.append (fn,fargs) (.slice sA' fargs.length sC') (hs.later hL4) (fun k e=>by
     have h1:=hfar k e;refine⟨by omega,by omega,fun e'=> ?_⟩;have h2:=(HO.out.lt e').2;omega) (by have:=HDl.out;omega) (by have:=hL3.size;omega) rfl
    have HL5:Hid (Later w w5):=hL04.more hg5 hd5 fun k e=>by have:=(HO.out.lt e).1;omega
    have HO5:=hide hO5;have hz3:=hL3.size;have hz5:w.heap.size<w5.heap.size:=by have:=hg5.size;rw[World.size_alloc] at this;omega
    have HB5:Hid (w5.heap[w.heap.size]?=some (.cells #[.bool no,.string nm,.slice ta head.terms.length tc] 85 (0,0))):=by
     show _=_;rw[hg5.block _ (by rw[World.size_alloc];omega) (fun e=>by have:=(HO.out.lt e.symm).1;omega),Below.heap_alloc _ _ _ (by omega),hL4.block (by omega),hL3.block hsz];exact HB.out
    rw[hz4,hw4] at hrun;have HR5:=hide hrun;obtain⟨a5,c5,rfl⟩:=hO5.slice;rw[List.length_append] at HO5;clear hL3 hfar hs hw4 hL4 hr4 hz4 hL04 hO4 hO5 hrun hg5 hd5 HFc
    go_wp2_with (at_builtin;refine wpList_append_run rfl (.tmp 23) (.tmp 25) 24 rfl _ _ _ _ rfl rfl HR5.out ?_)
    go_roundg (R.length- (j+1))
    case measure=>omega
    case rel=>exact⟨j+1,by omega,by go_num,D++[(fn,fargs)],HD',HO5,(by have:=HDl.out;simp;omega:(D++[(fn,fargs)]).length≤j+1),HL5,hz5,HB5⟩
  ·have hj':j=R.length:=by omega
   subst hj';rw[List.take_length] at HD;go_wp2;go_ret;exact⟨_,rfl,HD.out▸HO.out.base (Nat.le_succ _),HL.out⟩
def MkB (mb:Nat) (kv nv:Value) (D:List FactB) (w:World):Prop:=∃dv,w.heap[mb]?=some (.cells #[kv,nv,dv] 280 (0,0))∧OwnF w (mb+1) dv D
theorem MkB.below {mb:Nat} {kv nv:Value} {D:List FactB} {w w':World} (h:MkB mb kv nv D w) (k:Below w.heap.size w w'):MkB mb kv nv D w':=by
 obtain⟨dv,h1,h2⟩:=h;exact⟨dv,(k.block _ (Array.getElem?_eq_some_iff.1 h1).1).trans h1,h2.stay k.size fun j hj _=>k.block j hj⟩
theorem MkB.drewN {mb:Nat} {kv nv:Value} {D:List FactB} {w:World} (h:MkB mb kv nv D w) (q:Nat):MkB mb kv nv D (w.drewN q):=h.below ⟨rfl,rfl,rfl,Nat.le_refl _,fun _ _=>rfl⟩
theorem belowN {n:Nat} {a b:World} (h:Below n a b) (q:Nat):Below n a (b.drewN q):=⟨h.os,h.tape,h.output,h.size,h.block⟩
theorem MkB.lt {mb:Nat} {kv nv:Value} {D:List FactB} {w:World} (h:MkB mb kv nv D w):mb<w.heap.size:=by
 obtain⟨dv,h1,_⟩:=h;exact(Array.getElem?_eq_some_iff.1 h1).1
def addD (K D L:List FactB):List FactB:=if K.length+D.length≤200 then setF (D++L.filter fun f=> !inB K f) else D
structure Mades (K D acc:List FactB):Prop where
 up:Up D
 of:∀f∈D,f∈acc∧f∉K
 all:K.length+D.length≤200→∀f∈acc,f∉K→f∈D
 few:D.length≤20400
theorem Mades.nil (K:List FactB):Mades K [] []:=⟨List.Pairwise.nil,fun _ h=>(by cases h),fun _ _ h=>(by cases h),by simp⟩
theorem Mades.add {K D acc:List FactB} (h:Mades K D acc) (L:List FactB) (hL:L.length≤20000):Mades K (addD K D L) (acc++L):=by
 unfold addD;split
 ·rename_i hc;have hm:∀f,f∈setF (D++L.filter fun f=> !inB K f)↔f∈D∨(f∈L∧f∉K):=fun f=>by
   rw[mem_setF,List.mem_append,List.mem_filter];refine or_congr Iff.rfl (and_congr Iff.rfl ?_);rw[Bool.not_eq_true',←Bool.not_eq_true,inB_iff]
  refine⟨setF_up _,fun f hf=> ?_,fun _ f hf hn=> ?_,?_⟩
  ·rcases(hm f).1 hf with h1|⟨h1,h2⟩
   ·exact⟨List.mem_append.2 (Or.inl (h.of f h1).1),(h.of f h1).2⟩
   ·exact⟨List.mem_append.2 (Or.inr h1),h2⟩
  ·rcases List.mem_append.1 hf with h1|h1
   ·exact(hm f).2 (Or.inl (h.all hc f h1 hn))
   ·exact(hm f).2 (Or.inr ⟨h1,hn⟩)
  ·have h1:=setF_len (D++L.filter fun f=> !inB K f);have h2:=List.length_filter_le (fun f=> !inB K f) L;rw[List.length_append] at h1;omega
 ·rename_i hc;exact⟨h.up,fun f hf=>⟨List.mem_append.2 (Or.inl (h.of f hf).1),(h.of f hf).2⟩,fun h'=>absurd h' hc,h.few⟩
theorem filter_in (K L:List FactB):(L.filter fun f=> !inFrom K f 0)=L.filter fun f=> !inB K f:=by
 congr 1
 funext f
 congr 1
 rw[Bool.eq_iff_iff,inFrom_iff,inB_iff]
set_option maxRecDepth 100000 in
set_option maxHeartbeats 2000000 in
theorem roundAdd (mb:Nat) (K D L:List FactB) (kv nv lv:Value) (w:World) (hm:MkB mb kv nv D w) (hk:Facts w kv K) (hu:Up K) (hl:Facts w lv L) (hK:K.length≤200) (hL:L.length≤20000) (hD:D.length≤20400):
  Calls Tryz.prog 265 #[.pointer (some ⟨mb,0,none⟩),lv] w fun e w'=>(∃u,e=.returned u)∧MkB mb kv nv (addD K D L) w'∧Tn mb w w':=by
 have HMk:=hide hm;obtain⟨dv,hrow,hO⟩:=hm;obtain⟨ka,kc,rfl⟩:=sliceFacts hk;obtain⟨la,lc,rfl⟩:=sliceFacts hl;obtain⟨da,dc,rfl⟩:=hO.slice;have hmb:mb<w.heap.size:=(Array.getElem?_eq_some_iff.1 hrow).1;have c0:w.cell? ⟨mb,0,none⟩=some (.slice ka K.length kc):=by rw[cell_of_row _ _ _ _ _ _ hrow];rfl
 have c2:w.cell? ⟨mb,2,none⟩=some (.slice da D.length dc):=by rw[cell_of_row _ _ _ _ _ _ hrow];rfl
 have HRow:=hide hrow;have HO:=hide hO;have HK:=hide hk;have HLv:=hide hl;have HUp:=hide hu;clear hrow hO hk hl hu;unfold addD
 by_cases hc:K.length+D.length≤200
 ·rw[if_pos hc];have hcz:(K.length:Int)+(D.length:Int)≤200:=by omega
  have HLs:Hid (∀w1,Below w.heap.size w w1→Calls Tryz.prog 43 #[.slice la L.length lc,.slice ka K.length kc] w1 fun e w'=>∃v',e=.returned v'∧Facts w' v' (L.filter fun f=> !inB K f)∧Below w.heap.size w w'):=fun w1 h1=>
   (lessC (.slice la L.length lc) (.slice ka K.length kc) L K w1 (HLv.out.below h1) (HK.out.below h1) HUp.out).mono fun e w' ⟨v',he,hO',hL'⟩=>⟨v',he,by
    rw[filter_in] at hO';exact hO'.facts (by have:=List.length_filter_le (fun f=> !inB K f) L;omega),below_trans h1 hL'.below h1.size⟩
  have HJn:Hid (∀w1 v1 L1,L1.length≤20000→Facts w1 v1 L1→Below w.heap.size w w1→Calls Tryz.prog 151 #[.slice da D.length dc,v1] w1 fun e w'=>∃v',e=.returned v'∧OwnF w' w.heap.size v' (setF (D++L1))∧Below w.heap.size w w'):=fun w1 v1 L1 hl1 hf1 h1=>
   (joinC (.slice da D.length dc) v1 D L1 w1 ((HO.out.facts (by omega)).below h1) hf1 (by omega)).mono fun e w' ⟨v',s,he,hS,hO',hL'⟩=>⟨v',he,by
    have e:s=setF (D++L1):=setF_of hS.1 hS.2.1;rw[←e];exact hO'.base h1.size,below_trans h1 hL'.below h1.size⟩
  have HC2:Hid (∀w1,Below w.heap.size w w1→w1.cell? ⟨mb,2,none⟩=some (.slice da D.length dc)∧w1.cell? ⟨mb,0,none⟩=some (.slice ka K.length kc)):=fun w1 h1=>
   ⟨by rw[h1.cell (p:=⟨mb,2,none⟩) hmb];exact c2,by rw[h1.cell (p:=⟨mb,0,none⟩) hmb];exact c0⟩
  have HFin:Hid (∀w2 v2,OwnF w2 w.heap.size v2 (setF (D++L.filter fun f=> !inB K f))→Below w.heap.size w w2→MkB mb (.slice ka K.length kc) nv (setF (D++L.filter fun f=> !inB K f)) (w2.setCell ⟨mb,2,none⟩ v2)∧Tn mb w (w2.setCell ⟨mb,2,none⟩ v2)):=fun w2 v2 h1 h2=>by
   have hr2:w2.heap[mb]?=some (.cells #[.slice ka K.length kc,nv,.slice da D.length dc] 280 (0,0)):=(h2.block _ hmb).trans HRow.out;refine⟨⟨v2,by rw[set_at hr2];rfl,?_⟩,Tn.setCell (p:=mb) (Tn.of_below h2) (x:=⟨mb,2,none⟩) (Or.inl rfl) _⟩;exact(h1.stay (by rw[size_setCell];exact Nat.le_refl _) fun k _ hk=>heap_setCell_other _ _ _ (by show k≠mb;omega)).base (by omega)
  have HFz:Hid (∀w2,Below w.heap.size w w2→w2.frozen? ⟨mb,2,none⟩=false):=fun w2 h2=>by
   have hr2:w2.heap[mb]?=some (.cells #[.slice ka K.length kc,nv,.slice da D.length dc] 280 (0,0)):=(h2.block _ hmb).trans HRow.out;simp[World.frozen?,hr2]
  have hLf:=List.length_filter_le (fun f=> !inB K f) L;clear HK HLv HUp HO HRow
  go_enter Tryz.func265,Tryz.ntmps265
  go_wp2
  go_quiet (fail)
  go_wp2;have hBe:Below w.heap.size w (w.drewN nq).drew:=(belowN (Below.refl _ w) nq).drew;refine wp_region_held_drew (S:=fun w'=>Tn mb w w'∧w'.cell? ⟨mb,0,none⟩=some (.slice ka K.length kc)) (by kernel_rfl) ⟨Tn.of_below hBe,c0⟩ (fun hHeld=> ?_);refine take_yes (i:=0) (d:=some 16) (v:= ?_) rfl rfl hHeld ?_ ?_;rotate_left;focus intro w hSw;(try dsimp only at hSw);go_simp;try with_reducible rfl
  simp only[aput,aset,aze,asu];refine take_yes (i:=1) (d:=some 17) (v:= ?_) rfl rfl hHeld ?_ ?_;rotate_left;focus intro w hSw;(try dsimp only at hSw);go_simp;try with_reducible rfl
  simp only[aput,aset,aze,asu];refine take_yes (i:=2) (d:=some 18) (v:= ?_) rfl rfl hHeld ?_ ?_;rotate_left;focus intro w hSw;(try dsimp only at hSw);go_simp;try with_reducible rfl
  simp only[aput,aset,aze,asu];refine take_yes (i:=3) (d:=some 19) (v:= ?_) rfl rfl hHeld ?_ ?_;rotate_left;focus intro w hSw;(try dsimp only at hSw);go_simp;try with_reducible rfl
  simp only[aput,aset,aze,asu];refine take_yes (i:=5) (d:=some 21) (v:= ?_) rfl rfl hHeld ?_ ?_;rotate_left;focus intro w hSw;(try dsimp only at hSw);go_simp;try with_reducible rfl
  simp only[aput,aset,aze,asu];refine take_yes (i:=6) (d:=some 22) (v:= ?_) rfl rfl hHeld ?_ ?_;rotate_left;focus intro w hSw;(try dsimp only at hSw);go_simp;try with_reducible rfl
  simp only[aput,aset,aze,asu];refine take_yes (i:=7) (d:=some 23) (v:= ?_) rfl rfl hHeld ?_ ?_;rotate_left;focus intro w hSw;(try dsimp only at hSw);go_simp;try with_reducible rfl
  simp only[aput,aset,aze,asu];refine take_yes (i:=8) (d:=some 24) (v:= ?_) rfl rfl hHeld ?_ ?_;rotate_left;focus intro w hSw;(try dsimp only at hSw);go_simp;try with_reducible rfl
  simp only[aput,aset,aze,asu];refine take_yes (i:=9) (d:=some 25) (v:= ?_) rfl rfl hHeld ?_ ?_;rotate_left;focus intro w hSw;(try dsimp only at hSw);have q0:=hSw.2;go_simp;try with_reducible rfl
  simp only[aput,aset,aze,asu];refine wpAnyH_ready (rs:=[4,10]) (by kernel_rfl) (by simp) ?_;refine AllReadyH.cons rfl (fun K hK=> ?_) (AllReadyH.cons rfl (fun K hK=> ?_) AllReadyH.nil)
  ·have q2:=(HC2.out _ hBe).1;go_simp;refine hK.out _ _ hHeld (fun hHeld=> ?_);clear hK K q2;refine wpAnyH_ready (rs:=[10]) (by kernel_rfl) (by simp) ?_;refine AllReadyH.cons rfl (fun K hK=> ?_) AllReadyH.nil;go_simp;refine(HLs.out _ hBe).mono ?_;rintro e w1 ⟨v1,rfl,hF1,hB1⟩;refine hK.out _ _ ⟨Tn.of_below hB1,(HC2.out _ hB1).2⟩ (fun hHeld=> ?_);clear hK K;refine wpAnyH_ready (rs:=[11]) (by kernel_rfl) (by simp) ?_;refine AllReadyH.cons rfl (fun K hK=> ?_) AllReadyH.nil;go_simp;refine(HJn.out _ v1 _ (Nat.le_trans hLf hL) hF1 hB1).mono ?_;rintro e w2 ⟨v2,rfl,hO2,hB2⟩;obtain⟨a2,n2,d2,rfl⟩:∃a n c,v2=.slice a n c:=by obtain⟨a,c,e⟩:=hO2.slice;exact⟨a,_,c,e⟩
   refine hK.out _ _ ⟨Tn.of_below hB2,(HC2.out _ hB2).2⟩ (fun hHeld=> ?_);clear hK K;refine take_yes (i:=12) (d:=some 28) (v:= ?_) rfl rfl hHeld ?_ ?_;rotate_left;focus intro w hSw;(try dsimp only at hSw);go_simp;try with_reducible rfl
   simp only[aput,aset,aze,asu];refine take_yes (i:=13) (d:=some 29) (v:= ?_) rfl rfl hHeld ?_ ?_;rotate_left;focus intro w hSw;(try dsimp only at hSw);go_simp;try with_reducible rfl
   simp only[aput,aset,aze,asu];refine wpAnyH_ready (rs:=[14]) (by kernel_rfl) (by simp) ?_;refine AllReadyH.cons rfl (fun K hK=> ?_) AllReadyH.nil;have q2:=(HC2.out _ hB2).1;have fz:=HFz.out _ hB2;go_simp;refine hK.out _ _ ⟨(HFin.out _ _ hO2 hB2).2,by rw[World.cell?_setCell_other _ _ _ _ (by simp)];exact(HC2.out _ hB2).2⟩ (fun hHeld=> ?_);clear hK K;refine wpAnyH_done (by kernel_rfl) ?_ _;have HF2:=hide (HFin.out _ _ hO2 hB2);clear q2 fz hO2 hB2 hF1 hB1 hHeld;go_wp2;go_end0;exact⟨⟨_,rfl⟩,HF2.out⟩
  ·go_simp;refine(HLs.out _ hBe).mono ?_;rintro e w1 ⟨v1,rfl,hF1,hB1⟩;refine hK.out _ _ ⟨Tn.of_below hB1,(HC2.out _ hB1).2⟩ (fun hHeld=> ?_);clear hK K;refine wpAnyH_ready (rs:=[4]) (by kernel_rfl) (by simp) ?_;refine AllReadyH.cons rfl (fun K hK=> ?_) AllReadyH.nil;have q2:=(HC2.out _ hB1).1;go_simp;refine hK.out _ _ hHeld (fun hHeld=> ?_);clear hK K q2;refine wpAnyH_ready (rs:=[11]) (by kernel_rfl) (by simp) ?_;refine AllReadyH.cons rfl (fun K hK=> ?_) AllReadyH.nil;go_simp;refine(HJn.out _ v1 _ (Nat.le_trans hLf hL) hF1 hB1).mono ?_;rintro e w2 ⟨v2,rfl,hO2,hB2⟩;obtain⟨a2,n2,d2,rfl⟩:∃a n c,v2=.slice a n c:=by obtain⟨a,c,e⟩:=hO2.slice;exact⟨a,_,c,e⟩
   refine hK.out _ _ ⟨Tn.of_below hB2,(HC2.out _ hB2).2⟩ (fun hHeld=> ?_);clear hK K;refine take_yes (i:=12) (d:=some 28) (v:= ?_) rfl rfl hHeld ?_ ?_;rotate_left;focus intro w hSw;(try dsimp only at hSw);go_simp;try with_reducible rfl
   simp only[aput,aset,aze,asu];refine take_yes (i:=13) (d:=some 29) (v:= ?_) rfl rfl hHeld ?_ ?_;rotate_left;focus intro w hSw;(try dsimp only at hSw);go_simp;try with_reducible rfl
   simp only[aput,aset,aze,asu];refine wpAnyH_ready (rs:=[14]) (by kernel_rfl) (by simp) ?_;refine AllReadyH.cons rfl (fun K hK=> ?_) AllReadyH.nil;have q2:=(HC2.out _ hB2).1;have fz:=HFz.out _ hB2;go_simp;refine hK.out _ _ ⟨(HFin.out _ _ hO2 hB2).2,by rw[World.cell?_setCell_other _ _ _ _ (by simp)];exact(HC2.out _ hB2).2⟩ (fun hHeld=> ?_);clear hK K;refine wpAnyH_done (by kernel_rfl) ?_ _;have HF2:=hide (HFin.out _ _ hO2 hB2);clear q2 fz hO2 hB2 hF1 hB1 hHeld;go_wp2;go_end0;exact⟨⟨_,rfl⟩,HF2.out⟩
 ·rw[if_neg hc];have hcz:¬((K.length:Int)+(D.length:Int)≤200):=by omega
  go_enter Tryz.func265,Tryz.ntmps265
  go_wp2
  go_quiet (fail)
  go_wp2;go_end0;exact⟨⟨_,rfl⟩,HMk.out.drewN _,(Tn.refl _ _).drewN _⟩
end Go.Proofs.YtafmbokfkbccaaaGreatDoor
namespace Go.Proofs.YtafmbokfkbccaaaGreatDoor
open Go.RowKit Go.Sort Go.Maps
theorem errW_rightN {p:List RuleD} (hp:RightP p) {K N:List FactB} (hK:GoodS p K) (hN:Up N) (hs:∀f∈N,f∈K):∀r∈p,errW r.body K N=0:=fun r hr=>by
 unfold errW;rw[if_neg (by simp[(hp.rules r hr).body]),if_neg (by rw[fault_right hK.up hK.right hK.few];simp),fault_right hN (fun f hf=>hK.right f (hs f hf)) (Nat.le_trans (up_le hN hs) hK.few)]
def AskT (K N:List FactB) (r:RuleD) (acc:List FactB) (mb:Nat) (kv nv:Value) (er:Int) (w:World):Prop:=match askP K N r acc with
 |none=>er=4
 |some acc'=>er=0∧∃D',MkB mb kv nv D' w∧Mades K D' acc'
theorem any_all (l:List AtomD):(l.any fun a=> !a.no)= !(l.all fun a=>a.no):=by
 induction l with
 |nil=>rfl
 |cons a l ih=>rw[List.any_cons,List.all_cons,ih];cases a.no <;> rfl
set_option maxRecDepth 100000 in
set_option maxHeartbeats 4000000 in
theorem roundAsk (p:List RuleD) (hp:RightP p) (r:RuleD) (hr:r∈p) (K N D acc:List FactB) (hK:GoodS p K) (hN:Up N) (hs:∀f∈N,f∈K) (mb:Nat) (kv nv tv bv:Value) (w0 w:World) (hk:Facts w0 kv K) (hn:Facts w0 nv N)
  (ht:termK.sl Anyw w0 tv r.head.terms) (hb:atomK.sl Anyw w0 bv r.body) (h0:w0.heap.size≤mb) (hB:Below w0.heap.size w0 w) (hm:MkB mb kv nv D w) (hM:Mades K D acc):
  Calls Tryz.prog 211 #[.pointer (some ⟨mb,0,none⟩),.agg #[.bool r.head.no,.string (bs r.head.name),tv,bv]] w fun e w'=>∃er,e=.returned (.int .i64 er)∧AskT K N r acc mb kv nv er w'∧Tn mb w w':=by
 have hKf:=hK.few;have hNf:=Nat.le_trans (up_le hN hs) hK.few;have HE0:=hide (errW_right hp hK r hr);have HEN:=hide (errW_rightN hp hK hN hs r hr);have HSh:=hide (short_right hp hK r hr);have HU:=hide hK.up;have hmb:=hm.lt;have h5:=(body_right (hp.rules r hr).body).1;obtain⟨ta,tc,rfl⟩:=Kind.slice ht;obtain⟨ba,bc,rfl⟩:=Kind.slice hb;obtain⟨ka,kc,rfl⟩:=sliceFacts hk;obtain⟨na,nc,rfl⟩:=sliceFacts hn;have HK:=hide hk;have HN:=hide hn;have HT:=hide ht;have HBd:=hide hb;have HB:=hide hB;have HMk:=hide hm;have HM:=hide hM;obtain⟨wb,hwb⟩:∃wb,wb=w.alloc (.cells #[.bool r.head.no,.string (bs r.head.name),.slice ta r.head.terms.length tc,.slice ba r.body.length bc] 87):=⟨_,rfl⟩;have hLb:Later w wb:=by rw[hwb];exact(Later.refl w).alloc _
 have hrb:wb.heap[w.heap.size]?=some (.cells #[.bool r.head.no,.string (bs r.head.name),.slice ta r.head.terms.length tc,.slice ba r.body.length bc] 87 (0,0)):=by rw[hwb];exact heap_alloc_new w _
 have hBb:Below w0.heap.size w0 wb:=below_trans hB hLb.below hB.size;have HCn:=hide (containsAtom (.slice ba r.body.length bc) r.body wb (Kind.sl_below hb hBb));have c3:wb.cell? ⟨w.heap.size,3,none⟩=some (.slice ba r.body.length bc):=by rw[cell_of_row _ _ _ _ _ _ hrb];rfl
 have HLb:=hide hLb;have HRb:=hide hrb;have HWB:=hide hwb;rw[any_all] at HCn;clear hp hr hK hN hs hk hn ht hb hB hm hM hLb hrb hBb;generalize hal:(r.body.all fun a=>a.no)=al at*;have HAl:=hide hal;clear hal
 go_enter Tryz.func211,Tryz.ntmps211
 rw[hwb] at c3;clear hwb
 go_wp2_with fail
 rw[←HWB.out];clear c3;refine HCn.out.mono ?_;rintro e w1 ⟨rfl,hL1⟩;clear HCn HWB;have hwlt:w.heap.size<wb.heap.size:=(Array.getElem?_eq_some_iff.1 HRb.out).1;have hL01:Later w w1:=HLb.out.trans hL1;have HR1:Hid (w1.heap[w.heap.size]?=some (.cells #[.bool r.head.no,.string (bs r.head.name),.slice ta r.head.terms.length tc,.slice ba r.body.length bc] 87 (0,0))):=by
  show _=_;rw[hL1.block hwlt];exact HRb.out
 have HB1:Hid (Below w0.heap.size w0 w1):=below_trans HB.out hL01.below HB.out.size;have HMk1:Hid (MkB mb (.slice ka K.length kc) (.slice na N.length nc) D w1):=HMk.out.below hL01.below;have HTn1:Hid (Tn mb w w1):=Tn.of_below hL01.below;have hw1:w.heap.size<w1.heap.size:=by have:=hL1.size;omega
 clear hL1 hL01 HLb HRb HMk HB hwlt wb;cases al with
 |true=>
  obtain⟨dv,hrow,_⟩:=HMk1.out;have HS:Hid (∀w',Below w1.heap.size w1 w'→w'.cell? ⟨w.heap.size,0,none⟩=some (.bool r.head.no)∧w'.cell? ⟨w.heap.size,0+1,none⟩=some (.string (bs r.head.name))∧w'.cell? ⟨w.heap.size,0+2,none⟩=some (.slice ta r.head.terms.length tc)∧w'.cell? ⟨w.heap.size,0+3,none⟩=some (.slice ba r.body.length bc)∧w'.cell? ⟨mb,0,none⟩=some (.slice ka K.length kc)):=fun w' h=>by
   have hr':=(h.block _ hw1).trans HR1.out;have hm':=(h.block _ (Array.getElem?_eq_some_iff.1 hrow).1).trans hrow;exact⟨by rw[cell_of_row _ _ _ _ _ _ hr'];rfl,by rw[cell_of_row _ _ _ _ _ _ hr'];rfl,by rw[cell_of_row _ _ _ _ _ _ hr'];rfl,by rw[cell_of_row _ _ _ _ _ _ hr'];rfl,by rw[cell_of_row _ _ _ _ _ _ hm'];rfl⟩
  have HH:Hid (∀w',Below w1.heap.size w1 w'→Calls Tryz.prog 42 #[.agg #[.bool r.head.no,.string (bs r.head.name),.slice ta r.head.terms.length tc,.slice ba r.body.length bc],.slice ka K.length kc] w' fun e w''=>∃v' er,e=.returned (.tuple #[v',.int .i64 er])∧HeadsT w'' v' er r K∧Below w1.heap.size w1 w''):=fun w' h=>by
   have h':=below_trans HB1.out h HB1.out.size;exact(headsC r _ _ _ K w' (Kind.sl_below HT.out h') (Kind.sl_below HBd.out h') (HK.out.below h') HSh.out).mono fun e w'' ⟨v',er,he,hT,hB'⟩=>⟨v',er,he,hT,below_trans h hB' h.size⟩
  have HX:Hid (askP K N r acc=match headsP r K with|none=>none|some x=>some (acc++x)):=by show _=_;unfold askP;rw[if_pos HAl.out];all_goals rfl
  clear HR1 HT HBd HSh HEN hrow;generalize bs r.head.name=nm at*;generalize r.head.no=no at*;go_wp2;refine wp_region_held_drew (S:=fun w'=>Below w1.heap.size w1 w') (by kernel_rfl) (Below.refl _ _).drew (fun hHeld=> ?_);refine take_yes (i:=0) (d:=some 16) (v:= ?_) rfl rfl hHeld ?_ ?_;rotate_left;focus intro w hSw;(try dsimp only at hSw);obtain⟨q0,q1,q2,q3,q4⟩:=HS.out _ hSw;go_simp;try with_reducible rfl
  simp only[aput,aset,aze,asu];refine take_yes (i:=1) (d:=some 17) (v:= ?_) rfl rfl hHeld ?_ ?_;rotate_left;focus intro w hSw;(try dsimp only at hSw);go_simp;try with_reducible rfl
  simp only[aput,aset,aze,asu];refine take_yes (i:=2) (d:=some 18) (v:= ?_) rfl rfl hHeld ?_ ?_;rotate_left;focus intro w hSw;(try dsimp only at hSw);go_simp;try with_reducible rfl
  simp only[aput,aset,aze,asu];refine take_yes (i:=3) (d:=some 19) (v:= ?_) rfl rfl hHeld ?_ ?_;rotate_left;focus intro w hSw;(try dsimp only at hSw);go_simp;try with_reducible rfl
  simp only[aput,aset,aze,asu];refine take_yes (i:=4) (d:=some 20) (v:= ?_) rfl rfl hHeld ?_ ?_;rotate_left;focus intro w hSw;(try dsimp only at hSw);obtain⟨q0,q1,q2,q3,q4⟩:=HS.out _ hSw;go_simp;try with_reducible rfl
  simp only[aput,aset,aze,asu];refine wpAnyH_ready (rs:=[5]) (by kernel_rfl) (by simp) ?_;refine AllReadyH.cons rfl (fun K hK=> ?_) AllReadyH.nil;go_simp;refine(HH.out _ hHeld).mono ?_;rintro e w2 ⟨v2,er,rfl,hT2,hB2⟩;refine hK.out _ _ hB2 (fun hHeld=> ?_);clear hK K;refine take_yes (i:=6) (d:=some 15) (v:= ?_) rfl rfl hHeld ?_ ?_;rotate_left;focus intro w hSw;(try dsimp only at hSw);go_simp;try with_reducible rfl
  simp only[aput,aset,aze,asu];refine take_yes (i:=7) (d:=some 22) (v:= ?_) rfl rfl hHeld ?_ ?_;rotate_left;focus intro w hSw;(try dsimp only at hSw);go_simp;try with_reducible rfl
  simp only[aput,aset,aze,asu];refine take_yes (i:=8) (d:=some 23) (v:= ?_) rfl rfl hHeld ?_ ?_;rotate_left;focus intro w hSw;(try dsimp only at hSw);go_simp;try with_reducible rfl
  simp only[aput,aset,aze,asu];refine take_yes (i:=9) (d:=some 5) (v:= ?_) rfl rfl hHeld ?_ ?_;rotate_left;focus intro w hSw;(try dsimp only at hSw);go_simp;try with_reducible rfl
  simp only[aput,aset,aze,asu];refine take_yes (i:=10) (d:=some 6) (v:= ?_) rfl rfl hHeld ?_ ?_;rotate_left;focus intro w hSw;(try dsimp only at hSw);go_simp;try with_reducible rfl
  simp only[aput,aset,aze,asu];refine wpAnyH_done (by kernel_rfl) ?_ _;unfold HeadsT at hT2;rw[if_neg (by rw[HE0.out];simp)] at hT2;have HB2:=hide hB2;have HMk2:Hid (MkB mb (.slice ka K.length kc) (.slice na N.length nc) D w2):=HMk1.out.below hB2;have HK2:Hid (Facts w2 (.slice ka K.length kc) K):=HK.out.below (below_trans HB1.out hB2 HB1.out.size);have HTn2:Hid (Tn mb w w2):=HTn1.out.trans (Tn.of_below hB2);clear hB2 hHeld HS HH HE0;cases hh:headsP r K with
  |none=>
   rw[hh] at hT2;obtain⟨rfl,rfl⟩:=hT2;have HA:=hide (roundAdd mb K D [] (.slice ka K.length kc) (.slice na N.length nc) (.slice none 0 0) w2 HMk2.out HK2.out HU.out (facts_nil w2) hKf (by simp) HM.out.few);have HTo:Hid (∀w',AskT K N r acc mb (.slice ka K.length kc) (.slice na N.length nc) 4 w'):=fun w'=>by unfold AskT;rw[HX.out,hh]
   clear hh
   go_wp2_with fail
   refine HA.out.mono ?_;rintro e w3 ⟨⟨u3,rfl⟩,_,hTn3⟩;have HTn3:=hide (HTn2.out.trans hTn3);clear hTn3;go_wp2;go_ret;exact⟨4,rfl,HTo.out _,HTn3.out⟩
  |some x=>
   rw[hh] at hT2;obtain⟨rfl,hF2⟩:=hT2;have hxl:x.length≤20000:=by
    unfold headsP at hh;split at hh
    ·cases hh
    ·rename_i R hR;cases hh;have h1:=setF_len (R.filterMap fun l=>fillB r.head l);have h2:=List.length_filterMap_le (fun l=>fillB r.head l) R;have h3:=allB_small hR;omega
   obtain⟨xa,xc,rfl⟩:=sliceFacts hF2;have HA:=hide (roundAdd mb K D x (.slice ka K.length kc) (.slice na N.length nc) (.slice xa x.length xc) w2 HMk2.out HK2.out HU.out hF2 hKf hxl HM.out.few);have HTo:Hid (∀w',MkB mb (.slice ka K.length kc) (.slice na N.length nc) (addD K D x) w'→AskT K N r acc mb (.slice ka K.length kc) (.slice na N.length nc) 0 w'):=fun w' h=>by unfold AskT;rw[HX.out,hh];exact⟨rfl,_,h,HM.out.add x hxl⟩
   clear hh hF2 hxl
   go_wp2_with fail
   refine HA.out.mono ?_;rintro e w3 ⟨⟨u3,rfl⟩,hMk3,hTn3⟩;have HTn3:=hide (HTn2.out.trans hTn3);have HMk3:=hide hMk3;clear hTn3 hMk3;go_wp2;go_ret;exact⟨0,rfl,HTo.out _ HMk3.out,HTn3.out⟩
 |false=>
  have HX:Hid (askP K N r acc=atGo K N r 0 (r.body.drop 0) acc):=by show _=_;unfold askP;rw[if_neg (by rw[HAl.out];simp)];rfl
  have c3:w1.cell? ⟨w.heap.size,3,none⟩=some (.slice ba r.body.length bc):=by rw[cell_of_row _ _ _ _ _ _ HR1.out];rfl
  clear HSh HE0;go_wp2
  go_loopg [31] r.body.length (fun g i wr=>∃j:Nat,j+g=r.body.length∧i=.int .i64 j∧∃D' acc',Hid (MkB mb (.slice ka K.length kc) (.slice na N.length nc) D' wr)∧Hid (Mades K D' acc')∧Hid (Below w0.heap.size w0 wr)∧
   Hid (wr.heap[w.heap.size]?=some (.cells #[.bool r.head.no,.string (bs r.head.name),.slice ta r.head.terms.length tc,.slice ba r.body.length bc] 87 (0,0)))∧w.heap.size<wr.heap.size∧Hid (Tn mb w wr)∧Hid (askP K N r acc=atGo K N r j (r.body.drop j) acc'))
  case atStart=>exact⟨0,by omega,rfl,D,acc,HMk1,HM,HB1,HR1,hw1,HTn1,HX⟩
  case round=>
   clear HMk1 HM HB1 HR1 hw1 HTn1 HX c3 HAl;obtain⟨j,hj,rfl,D1,acc1,HMk,HM,HBr,HR,hwr,HTn,HX⟩:=hrel
   by_cases hlt:j<r.body.length
   ·obtain⟨a,hx⟩:∃x,r.body[j]?=some x:=⟨_,List.getElem?_eq_getElem hlt⟩;obtain⟨b1,o1,_,rfl,hb1,⟨av,rfl,hav⟩,hc⟩:=Kind.sl_at HBd.out hx;obtain⟨aa,ac,rfl⟩:=Kind.slice hav;have d0:wr.cell? ⟨b1,o1+j*3,none⟩=some (.bool a.no):=by rw[HBr.out.cell (p:=⟨b1,o1+j*3,none⟩) hb1];exact hc 0 _ rfl
    have d1:wr.cell? ⟨b1,o1+j*3+1,none⟩=some (.string (bs a.name)):=by rw[HBr.out.cell (p:=⟨b1,o1+j*3+1,none⟩) hb1];exact hc 1 _ rfl
    have d2:wr.cell? ⟨b1,o1+j*3+2,none⟩=some (.slice aa a.terms.length ac):=by rw[HBr.out.cell (p:=⟨b1,o1+j*3+2,none⟩) hb1];exact hc 2 _ rfl
    have hX:atGo K N r j (r.body.drop j) acc1=if a.no then atGo K N r (j+1) (r.body.drop (j+1)) acc1 else match allB (pickB K (j:Nat) N) r.body with|none=>none|some R=>atGo K N r (j+1) (r.body.drop (j+1)) (acc1++R.filterMap fun e=>fillB r.head e):=by
     obtain⟨h1,e1⟩:=List.getElem?_eq_some_iff.1 hx;rw[List.drop_eq_getElem_cons h1,e1,atGo]
     all_goals rfl
    have HX2:=hide (HX.out.trans hX);obtain⟨wb,hwb⟩:∃wb,wb=wr.alloc (.cells #[.bool a.no,.string (bs a.name),.slice aa a.terms.length ac] 85):=⟨_,rfl⟩;have hLb:Later wr wb:=by rw[hwb];exact(Later.refl _).alloc _
    have hzb:wr.heap.size<wb.heap.size:=by rw[hwb];simp
    have HMkb:Hid (MkB mb (.slice ka K.length kc) (.slice na N.length nc) D1 wb):=HMk.out.below hLb.below;have HBb:Hid (Below w0.heap.size w0 wb):=below_trans HBr.out hLb.below HBr.out.size;have HRb:Hid (wb.heap[w.heap.size]?=some (.cells #[.bool r.head.no,.string (bs r.head.name),.slice ta r.head.terms.length tc,.slice (some ⟨b1,o1,none⟩) r.body.length bc] 87 (0,0))):=by show _=_;rw[hLb.block hwr];exact HR.out
    have HTnb:Hid (Tn mb w wb):=HTn.out.trans (Tn.of_below hLb.below);have hwb':w.heap.size<wb.heap.size:=by omega
    have HWb:=hide hwb;clear hc hx hav hX HX hLb hwb HMk HBr HR HTn;cases hno:a.no with
    |true=>
     rw[hno] at d0 HWb;have HX3:Hid (askP K N r acc=atGo K N r (j+1) (r.body.drop (j+1)) acc1):=by show _=_;rw[HX2.out,hno];rfl
     clear hno HX2;generalize bs a.name=anm at*;go_wp2;rw[←HWb.out]
     go_roundg (r.body.length- (j+1))
     case measure=>omega
     case rel=>exact⟨j+1,by omega,by go_num,D1,acc1,HMkb,HM,HBb,HRb,hwb',HTnb,HX3⟩
    |false=>
     rw[hno] at d0 HWb;have hX3:askP K N r acc=match allB (pickB K (j:Nat) N) r.body with|none=>none|some R=>atGo K N r (j+1) (r.body.drop (j+1)) (acc1++R.filterMap fun e=>fillB r.head e):=by rw[HX2.out,hno];rfl
     have HX3:=hide hX3;obtain⟨dv,hrow,_⟩:=HMkb.out;have HS:Hid (∀w',Below wb.heap.size wb w'→w'.cell? ⟨w.heap.size,3,none⟩=some (.slice (some ⟨b1,o1,none⟩) r.body.length bc)∧w'.cell? ⟨mb,0,none⟩=some (.slice ka K.length kc)∧w'.cell? ⟨mb,1,none⟩=some (.slice na N.length nc)):=fun w' h=>by
      have hr':=(h.block _ hwb').trans HRb.out;have hm':=(h.block _ (Array.getElem?_eq_some_iff.1 hrow).1).trans hrow;exact⟨by rw[cell_of_row _ _ _ _ _ _ hr'];rfl,by rw[cell_of_row _ _ _ _ _ _ hm'];rfl,by rw[cell_of_row _ _ _ _ _ _ hm'];rfl⟩
     have HWi:Hid (∀w',Below wb.heap.size wb w'→Calls Tryz.prog 88 #[.slice (some ⟨b1,o1,none⟩) r.body.length bc,.slice ka K.length kc,.int .i64 (j:Nat),.slice na N.length nc] w' fun e w''=>∃v' er,e=.returned (.tuple #[v',.int .i64 er])∧WithT w'' v' er r.body K (j:Nat) N∧Below wb.heap.size wb w''):=fun w' h=>by
      have h':=below_trans HBb.out h HBb.out.size;exact(withC r.body _ _ _ K N (j:Nat) w' (Kind.sl_below HBd.out h') (HK.out.below h') (HN.out.below h')).mono fun e w'' ⟨v',er,he,hT,hB'⟩=>⟨v',er,he,hT,below_trans h hB' h.size⟩
     clear hno HX2 hX3 hrow;generalize bs a.name=anm at*;go_wp2;rw[←HWb.out];clear HWb d0 d1 d2;refine wp_region_held_drew (S:=fun w'=>Below wb.heap.size wb w') (by kernel_rfl) (Below.refl _ _).drew (fun hHeld=> ?_);refine take_yes (i:=0) (d:=some 39) (v:= ?_) rfl rfl hHeld ?_ ?_;rotate_left;focus intro w hSw;(try dsimp only at hSw);go_simp;try with_reducible rfl
     simp only[aput,aset,aze,asu];refine take_yes (i:=1) (d:=some 40) (v:= ?_) rfl rfl hHeld ?_ ?_;rotate_left;focus intro w hSw;(try dsimp only at hSw);obtain⟨q0,q1,q2⟩:=HS.out _ hSw;go_simp;try with_reducible rfl
     simp only[aput,aset,aze,asu];refine take_yes (i:=2) (d:=some 41) (v:= ?_) rfl rfl hHeld ?_ ?_;rotate_left;focus intro w hSw;(try dsimp only at hSw);go_simp;try with_reducible rfl
     simp only[aput,aset,aze,asu];refine take_yes (i:=3) (d:=some 42) (v:= ?_) rfl rfl hHeld ?_ ?_;rotate_left;focus intro w hSw;(try dsimp only at hSw);go_simp;try with_reducible rfl
     simp only[aput,aset,aze,asu];refine take_yes (i:=4) (d:=some 43) (v:= ?_) rfl rfl hHeld ?_ ?_;rotate_left;focus intro w hSw;(try dsimp only at hSw);go_simp;try with_reducible rfl
     simp only[aput,aset,aze,asu];refine take_yes (i:=5) (d:=some 44) (v:= ?_) rfl rfl hHeld ?_ ?_;rotate_left;focus intro w hSw;(try dsimp only at hSw);obtain⟨q0,q1,q2⟩:=HS.out _ hSw;go_simp;try with_reducible rfl
     simp only[aput,aset,aze,asu];refine take_yes (i:=6) (d:=some 45) (v:= ?_) rfl rfl hHeld ?_ ?_;rotate_left;focus intro w hSw;(try dsimp only at hSw);go_simp;try with_reducible rfl
     simp only[aput,aset,aze,asu];refine take_yes (i:=7) (d:=some 46) (v:= ?_) rfl rfl hHeld ?_ ?_;rotate_left;focus intro w hSw;(try dsimp only at hSw);go_simp;try with_reducible rfl
     simp only[aput,aset,aze,asu];refine take_yes (i:=8) (d:=some 47) (v:= ?_) rfl rfl hHeld ?_ ?_;rotate_left;focus intro w hSw;(try dsimp only at hSw);go_simp;try with_reducible rfl
     simp only[aput,aset,aze,asu];refine take_yes (i:=9) (d:=some 48) (v:= ?_) rfl rfl hHeld ?_ ?_;rotate_left;focus intro w hSw;(try dsimp only at hSw);go_simp;try with_reducible rfl
     simp only[aput,aset,aze,asu];refine take_yes (i:=10) (d:=some 49) (v:= ?_) rfl rfl hHeld ?_ ?_;rotate_left;focus intro w hSw;(try dsimp only at hSw);obtain⟨q0,q1,q2⟩:=HS.out _ hSw;go_simp;try with_reducible rfl
     simp only[aput,aset,aze,asu];refine wpAnyH_ready (rs:=[11]) (by kernel_rfl) (by simp) ?_;refine AllReadyH.cons rfl (fun K hK=> ?_) AllReadyH.nil;go_simp;refine(HWi.out _ hHeld).mono ?_;rintro e w2 ⟨v2,er,rfl,hT2,hB2⟩;refine hK.out _ _ hB2 (fun hHeld=> ?_);clear hK K;refine take_yes (i:=12) (d:=some 38) (v:= ?_) rfl rfl hHeld ?_ ?_;rotate_left;focus intro w hSw;(try dsimp only at hSw);go_simp;try with_reducible rfl
     simp only[aput,aset,aze,asu];refine take_yes (i:=13) (d:=some 51) (v:= ?_) rfl rfl hHeld ?_ ?_;rotate_left;focus intro w hSw;(try dsimp only at hSw);go_simp;try with_reducible rfl
     simp only[aput,aset,aze,asu];refine take_yes (i:=14) (d:=some 52) (v:= ?_) rfl rfl hHeld ?_ ?_;rotate_left;focus intro w hSw;(try dsimp only at hSw);go_simp;try with_reducible rfl
     simp only[aput,aset,aze,asu];refine take_yes (i:=15) (d:=some 9) (v:= ?_) rfl rfl hHeld ?_ ?_;rotate_left;focus intro w hSw;(try dsimp only at hSw);go_simp;try with_reducible rfl
     simp only[aput,aset,aze,asu];refine take_yes (i:=16) (d:=some 10) (v:= ?_) rfl rfl hHeld ?_ ?_;rotate_left;focus intro w hSw;(try dsimp only at hSw);go_simp;try with_reducible rfl
     simp only[aput,aset,aze,asu];refine wpAnyH_done (by kernel_rfl) ?_ _;unfold WithT at hT2;rw[if_neg (by rw[HEN.out];simp)] at hT2;have HMk2:Hid (MkB mb (.slice ka K.length kc) (.slice na N.length nc) D1 w2):=HMkb.out.below hB2;have HB2:Hid (Below w0.heap.size w0 w2):=below_trans HBb.out hB2 HBb.out.size;have HTn2:Hid (Tn mb w w2):=HTnb.out.trans (Tn.of_below hB2);have HR2:Hid (w2.heap[w.heap.size]?=some (.cells #[.bool r.head.no,.string (bs r.head.name),.slice ta r.head.terms.length tc,.slice (some ⟨b1,o1,none⟩) r.body.length bc] 87 (0,0))):=by show _=_;rw[hB2.block _ hwb'];exact HRb.out
     have hw2:w.heap.size<w2.heap.size:=by have:=hB2.size;omega
     clear hB2 hHeld HS HWi HMkb HBb HTnb HRb hwb';cases hR:allB (pickB K (j:Nat) N) r.body with
     |none=>
      rw[hR] at hT2;obtain⟨rfl,rfl⟩:=hT2;have HTo:Hid (∀w',AskT K N r acc mb (.slice ka K.length kc) (.slice na N.length nc) 4 w'):=fun w'=>by unfold AskT;rw[HX3.out,hR]
      clear hR HX3;go_wp2;go_ret;exact⟨4,rfl,HTo.out _,HTn2.out⟩
     |some R=>
      rw[hR] at hT2;obtain⟨rfl,hsl⟩:=hT2;have hsm:=allB_small hR;have HX4:Hid (askP K N r acc=atGo K N r (j+1) (r.body.drop (j+1)) (acc1++R.filterMap fun e=>fillB r.head e)):=by show _=_;rw[HX3.out,hR]
      obtain⟨ra,rc,rfl⟩:=Kind.slice hsl;have HFl:=hide (filledC r.head (.slice ta r.head.terms.length tc) (.slice ra R.length rc) R w2 (Kind.sl_below HT.out HB2.out) hsl hsm);have r0:w2.cell? ⟨w.heap.size,0,none⟩=some (.bool r.head.no):=by rw[cell_of_row _ _ _ _ _ _ HR2.out];rfl
      have r1:w2.cell? ⟨w.heap.size,0+1,none⟩=some (.string (bs r.head.name)):=by rw[cell_of_row _ _ _ _ _ _ HR2.out];rfl
      have r2:w2.cell? ⟨w.heap.size,0+2,none⟩=some (.slice ta r.head.terms.length tc):=by rw[cell_of_row _ _ _ _ _ _ HR2.out];rfl
      have hfl:=Nat.le_trans (List.length_filterMap_le (fun e=>fillB r.head e) R) hsm;clear hR HX3 hsl hsm;generalize bs r.head.name=nm at*;generalize r.head.no=no at*
      go_wp2_with fail
      refine HFl.out.mono ?_;rintro e w3 ⟨v3,rfl,hO3,hL3⟩;have hF3:=hO3.facts (by omega);have HA:=hide (roundAdd mb K D1 _ (.slice ka K.length kc) (.slice na N.length nc) v3 w3 (HMk2.out.below hL3.below) (HK.out.below (below_trans HB2.out hL3.below HB2.out.size)) HU.out hF3 hKf hfl HM.out.few);have HB3:Hid (Below w0.heap.size w0 w3):=below_trans HB2.out hL3.below HB2.out.size;have HR3:Hid (w3.heap[w.heap.size]?=some (.cells #[.bool no,.string nm,.slice ta r.head.terms.length tc,.slice (some ⟨b1,o1,none⟩) r.body.length bc] 87 (0,0))):=by show _=_;rw[hL3.block hw2];exact HR2.out
      have HTn3:Hid (Tn mb w w3):=HTn2.out.trans (Tn.of_below hL3.below);have hw3:w.heap.size<w3.heap.size:=by have:=hL3.size;omega
      have hm3:w0.heap.size≤w3.heap.size:=HB3.out.size;obtain⟨a3,c3,rfl⟩:=hO3.slice;clear hO3 hF3 hL3 HFl r0 r1 r2 HMk2 HB2 HR2 HTn2 hw2
      go_wp2_with fail
      refine HA.out.mono ?_;rintro e w4 ⟨⟨u4,rfl⟩,hMk4,hTn4⟩;have HMk4:=hide hMk4;have HM4:=hide (HM.out.add _ hfl);have HB4:Hid (Below w0.heap.size w0 w4):=below_trans HB3.out (hTn4.below (Nat.le_trans h0 (Nat.le_refl _)) hm3) (Nat.le_refl _);have HR4:Hid (w4.heap[w.heap.size]?=some (.cells #[.bool no,.string nm,.slice ta r.head.terms.length tc,.slice (some ⟨b1,o1,none⟩) r.body.length bc] 87 (0,0))):=by show _=_;rw[hTn4.block _ hw3 (by omega)];exact HR3.out
      have hw4:w.heap.size<w4.heap.size:=by have:=hTn4.size;omega
      have HTn4:Hid (Tn mb w w4):=HTn3.out.trans hTn4;clear hMk4 hTn4 HA;go_wp2
      go_roundg (r.body.length- (j+1))
      case measure=>omega
      case rel=>exact⟨j+1,by omega,by go_num,_,_,HMk4,HM4,HB4,HR4,hw4,HTn4,HX4⟩
   ·have HTo:Hid (AskT K N r acc mb (.slice ka K.length kc) (.slice na N.length nc) 0 wr):=by
     show AskT _ _ _ _ _ _ _ _ _;unfold AskT;rw[HX.out,List.drop_eq_nil_of_le (by omega),atGo];exact⟨rfl,D1,HMk.out,HM.out⟩
    go_wp2;go_ret;exact⟨0,rfl,HTo.out,HTn.out⟩
end Go.Proofs.YtafmbokfkbccaaaGreatDoor
namespace Go.Proofs.YtafmbokfkbccaaaGreatDoor
open Go.RowKit Go.Sort Go.Maps
def MakesT (b:Nat) (w:World) (v:Value) (er:Int) (p:List RuleD) (ss:List Nat) (r:RunD):Prop:=match makesGo r.known r.fresh r.level p ss [] with
 |none=>v=.slice none 0 0∧er=4
 |some acc=>er=0∧∃D,OwnF w b v D∧Mades r.known D acc
set_option maxRecDepth 100000 in
set_option maxHeartbeats 4000000 in
theorem makesC (p:List RuleD) (hp:RightP p) (σ:RuleD→Nat) (r:RunD) (hK:GoodS p r.known) (hN:Up r.fresh) (hs:∀f∈r.fresh,f∈r.known) (pv sv kv nv:Value) (w:World) (hpv:ruleK.sl Anyw w pv p) (hsv:intK.sl Anyw w sv (p.map σ)) (hk:Facts w kv r.known) (hn:Facts w nv r.fresh):
  Calls Tryz.prog 150 #[pv,sv,.agg #[kv,nv,.int .i64 r.level,.int .i64 r.rounds,.bool r.done]] w fun e w'=>∃v' er,e=.returned (.tuple #[v',.int .i64 er])∧MakesT (w.heap.size+2) w' v' er p (p.map σ) r∧Below w.heap.size w w':=by
 obtain⟨K,N,lev,rn,dn⟩:=r;dsimp only at*;obtain⟨pa,pc,rfl⟩:=Kind.slice hpv;obtain⟨sa,sc,rfl⟩:=Kind.slice hsv;obtain⟨ka,kc,rfl⟩:=sliceFacts hk;obtain⟨na,nc,rfl⟩:=sliceFacts hn;have hssl:(p.map σ).length=p.length:=List.length_map _;generalize hss:p.map σ=ss at*;have HSSL:=hide hssl;clear hssl;have HP:=hide hpv;have HSV:=hide hsv;have HRP:=hide hp;have HGK:=hide hK;have HUN:=hide hN;have HSub:=hide hs;have h16:=hp.few;obtain⟨wa,hwa⟩:∃wa,wa=w.alloc (.cells #[.slice ka K.length kc,.slice na N.length nc,.int .i64 lev,.int .i64 rn,.bool dn] 47):=⟨_,rfl⟩;have hLa:Later w wa:=by rw[hwa];exact(Later.refl w).alloc _
 have hza:wa.heap.size=w.heap.size+1:=by rw[hwa];simp
 have HRa:Hid (wa.heap[w.heap.size]?=some (.cells #[.slice ka K.length kc,.slice na N.length nc,.int .i64 lev,.int .i64 rn,.bool dn] 47 (0,0))):=by show _=_;rw[hwa];exact heap_alloc_new w _
 have HKa:=hide (hk.later hLa);have HNa:=hide (hn.later hLa);have HLa:=hide hLa;have HMk1:Hid (MkB (w.heap.size+1) (.slice ka K.length kc) (.slice na N.length nc) [] (wa.alloc (.cells #[.slice ka K.length kc,.slice na N.length nc,.slice none 0 0] 280))):=by
  refine⟨.slice none 0 0,?_,OwnF.nil _ _⟩;rw[←hza];exact heap_alloc_new wa _
 have HB1:Hid (Below wa.heap.size wa (wa.alloc (.cells #[.slice ka K.length kc,.slice na N.length nc,.slice none 0 0] 280))):=((Later.refl wa).alloc _).below;rw[hwa] at HMk1 HB1;have HWa:=hide hwa;clear hpv hsv hp hK hN hs hk hn hLa hwa
 go_enter Tryz.func150,Tryz.ntmps150
 go_wp2
 go_loopg [19] p.length (fun g i wr=>∃j:Nat,j+g=p.length∧i=.int .i64 j∧∃D acc,Hid (MkB (w.heap.size+1) (.slice ka K.length kc) (.slice na N.length nc) D wr)∧Hid (Mades K D acc)∧Hid (Below wa.heap.size wa wr)∧Hid (makesGo K N lev p ss []=makesGo K N lev (p.drop j) (ss.drop j) acc))
 case atStart=>exact⟨0,by omega,rfl,[],[],HMk1,Mades.nil K,by show Below _ _ _;rw[HWa.out];exact HB1.out,(rfl:_=_)⟩
 case round=>
  clear HMk1 HB1;obtain⟨j,hj,rfl,D,acc,HMk,HM,HBr,HX⟩:=hrel;have hBw:Below w.heap.size w wr:=below_trans HLa.out.below HBr.out (by omega);have hrr:wr.heap[w.heap.size]?=some (.cells #[.slice ka K.length kc,.slice na N.length nc,.int .i64 lev,.int .i64 rn,.bool dn] 47 (0,0)):=(HBr.out.block _ (by omega)).trans HRa.out
  by_cases hlt:j<p.length
  ·obtain⟨r,hr⟩:∃x,p[j]?=some x:=⟨_,List.getElem?_eq_getElem hlt⟩;have hrm:r∈p:=List.mem_of_getElem? hr;obtain⟨b1,o1,_,rfl,hb1,⟨tv,bv,rfl,htv,hbv⟩,hc⟩:=Kind.sl_at HP.out hr;have d0:wr.cell? ⟨b1,o1+j*4,none⟩=some (.bool r.head.no):=by rw[hBw.cell (p:=⟨b1,o1+j*4,none⟩) hb1];exact hc 0 _ rfl
   have d1:wr.cell? ⟨b1,o1+j*4+1,none⟩=some (.string (bs r.head.name)):=by rw[hBw.cell (p:=⟨b1,o1+j*4+1,none⟩) hb1];exact hc 1 _ rfl
   have d2:wr.cell? ⟨b1,o1+j*4+2,none⟩=some tv:=by rw[hBw.cell (p:=⟨b1,o1+j*4+2,none⟩) hb1];exact hc 2 _ rfl
   have d3:wr.cell? ⟨b1,o1+j*4+3,none⟩=some bv:=by rw[hBw.cell (p:=⟨b1,o1+j*4+3,none⟩) hb1];exact hc 3 _ rfl
   have hpd:p.drop j=r::p.drop (j+1):=by
    obtain⟨h1,e1⟩:=List.getElem?_eq_some_iff.1 hr;rw[List.drop_eq_getElem_cons h1,e1]
   obtain⟨ta,tc,rfl⟩:=Kind.slice htv;obtain⟨ba,bc,rfl⟩:=Kind.slice hbv;have hwr:=hBw.size;obtain⟨s,hs⟩:∃x,ss[j]?=some x:=⟨_,List.getElem?_eq_getElem (by have:=HSSL.out;omega)⟩;obtain⟨b2,o2,_,rfl,hb2,rfl,hc2⟩:=Kind.sl_at HSV.out hs;have hsd:ss.drop j=s::ss.drop (j+1):=by
    obtain⟨h1,e1⟩:=List.getElem?_eq_some_iff.1 hs;rw[List.drop_eq_getElem_cons h1,e1]
   have hstep:makesGo K N lev p ss []=if(s:Int)=lev then(match askP K N r acc with
     |none=>none
     |some acc'=>makesGo K N lev (p.drop (j+1)) (ss.drop (j+1)) acc') else makesGo K N lev (p.drop (j+1)) (ss.drop (j+1)) acc:=by
    rw[HX.out,hpd,hsd];rfl
   have hsji:(j:Int)<(ss.length:Int):=by have:=HSSL.out;omega
   obtain⟨wb,hwb⟩:∃wb,wb=wr.alloc (.cells #[.bool r.head.no,.string (bs r.head.name),.slice ta r.head.terms.length tc,.slice ba r.body.length bc] 87):=⟨_,rfl⟩;have hLb:Later wr wb:=by rw[hwb];exact(Later.refl _).alloc _
   have hrb:wb.heap[wr.heap.size]?=some (.cells #[.bool r.head.no,.string (bs r.head.name),.slice ta r.head.terms.length tc,.slice ba r.body.length bc] 87 (0,0)):=by rw[hwb];exact heap_alloc_new _ _
   have hBb:Below w.heap.size w wb:=below_trans hBw hLb.below hwr;have e0:wb.cell? ⟨b2,o2+j,none⟩=some (.int .i64 s):=by rw[hBb.cell (p:=⟨b2,o2+j,none⟩) hb2];simpa[intK] using hc2 0 _ rfl
   have l0:wb.cell? ⟨w.heap.size,2,none⟩=some (.int .i64 lev):=by rw[hLb.cell (p:=⟨w.heap.size,2,none⟩) (Array.getElem?_eq_some_iff.1 hrr).1,cell_of_row _ _ _ _ _ _ hrr];rfl
   have r0:wb.cell? ⟨wr.heap.size,0,none⟩=some (.bool r.head.no):=by rw[cell_of_row _ _ _ _ _ _ hrb];rfl
   have r1:wb.cell? ⟨wr.heap.size,0+1,none⟩=some (.string (bs r.head.name)):=by rw[cell_of_row _ _ _ _ _ _ hrb];rfl
   have r2:wb.cell? ⟨wr.heap.size,0+2,none⟩=some (.slice ta r.head.terms.length tc):=by rw[cell_of_row _ _ _ _ _ _ hrb];rfl
   have r3:wb.cell? ⟨wr.heap.size,0+3,none⟩=some (.slice ba r.body.length bc):=by rw[cell_of_row _ _ _ _ _ _ hrb];rfl
   have HMkb:Hid (MkB (w.heap.size+1) (.slice ka K.length kc) (.slice na N.length nc) D wb):=HMk.out.below hLb.below;have HBb:Hid (Below wa.heap.size wa wb):=below_trans HBr.out hLb.below HBr.out.size;have HWb:=hide hwb
   by_cases hsn:(s:Int)=lev
   ·rw[if_pos hsn] at hstep;have HAsk:Hid (∀q,Calls Tryz.prog 211 #[.pointer (some ⟨w.heap.size+1,0,none⟩),.agg #[.bool r.head.no,.string (bs r.head.name),.slice ta r.head.terms.length tc,.slice ba r.body.length bc]] (wb.drewN q) fun e w'=>∃er,e=.returned (.int .i64 er)∧AskT K N r acc (w.heap.size+1) (.slice ka K.length kc) (.slice na N.length nc) er w'∧Tn (w.heap.size+1) (wb.drewN q) w'):=fun q=>
     roundAsk p HRP.out r hrm K N D acc HGK.out HUN.out HSub.out (w.heap.size+1) _ _ _ _ wa (wb.drewN q) HKa.out HNa.out (Kind.sl_later htv HLa.out) (Kind.sl_later hbv HLa.out) (by omega) (belowN HBb.out q) (HMkb.out.drewN q) HM.out
    have hneq:((s:Int) != lev)=false:=by simp[hsn]
    have HST:=hide hstep;clear hc hc2 hr hs htv hbv hpd hsd hLb hwb hrm hrb hBb hrr hstep HX HMk hBw;generalize bs r.head.name=nm at*;generalize r.head.no=no at*;subst hsn;go_wp2;rw[←HWb.out]
    go_quiet (fail)
    go_wp2_with fail
    refine(HAsk.out _).mono ?_;rintro e w3 ⟨er,rfl,hT3,hTn3⟩;have HB3:Hid (Below wa.heap.size wa w3):=below_trans (belowN HBb.out _) (hTn3.below (n:=wa.heap.size) (by omega) HBb.out.size) (Nat.le_refl _);clear hTn3 HAsk HWb e0 l0 r0 r1 r2 r3 d0 d1 d2 d3;unfold AskT at hT3;cases hh:askP K N r acc with
    |none=>
     rw[hh] at hT3;have hT3:er=4:=hT3;subst hT3;have HT:Hid (∀w',MakesT (w.heap.size+2) w' (.slice none 0 0) 4 p ss ⟨K,N,s,rn,dn⟩):=fun w'=>by unfold MakesT;dsimp only;rw[HST.out,hh];exact⟨rfl,rfl⟩
     have HBw3:Hid (Below w.heap.size w w3):=below_trans HLa.out.below HB3.out (by omega);clear hh HST;go_wp2;exact bodyPost_ret (v:=.tuple #[.slice none 0 0,.int .i64 4]) (by simp[results,Tryz.results150,go_sem]) rfl ⟨_,4,rfl,HT.out _,HBw3.out⟩
    |some acc'=>
     rw[hh] at hT3;obtain⟨rfl,D',hMk',hM'⟩:=hT3;have HX':Hid (makesGo K N s p ss []=makesGo K N s (p.drop (j+1)) (ss.drop (j+1)) acc'):=by show _=_;rw[HST.out,hh]
     have HMk':=hide hMk';have HM':=hide hM';clear hh HST hMk' hM';go_wp2
     go_roundg (p.length- (j+1))
     case measure=>omega
     case rel=>exact⟨j+1,by omega,by go_num,D',acc',HMk',HM',HB3,HX'⟩
   ·rw[if_neg hsn] at hstep;have hneq:((s:Int) != lev)=true:=by simp[hsn]
    have HX':=hide hstep;clear hc hc2 hr hs htv hbv hpd hsd hLb hwb hrm hrb hBb hrr hstep HX HMk hBw;generalize bs r.head.name=nm at*;generalize r.head.no=no at*;go_wp2;rw[←HWb.out]
    go_quiet (fail)
    go_wp2
    go_roundg (p.length- (j+1))
    case measure=>omega
    case rel=>exact⟨j+1,by omega,by go_num,D,acc,HMkb.out.drewN _,HM,belowN HBb.out _,HX'⟩
  ·obtain⟨dv,hrow,hO⟩:=HMk.out;obtain⟨da,dc,rfl⟩:=hO.slice;have c2:wr.cell? ⟨w.heap.size+1,2,none⟩=some (.slice da D.length dc):=by rw[cell_of_row _ _ _ _ _ _ hrow];rfl
   have HT:Hid (MakesT (w.heap.size+2) wr (.slice da D.length dc) 0 p ss ⟨K,N,lev,rn,dn⟩):=by
    show MakesT _ _ _ _ _ _ _;unfold MakesT;dsimp only;rw[HX.out,List.drop_eq_nil_of_le (by omega)];unfold makesGo;exact⟨rfl,D,hO,HM.out⟩
   have HBw:=hide hBw;clear hrow hO HX hBw hrr;go_wp2;exact bodyPost_ret (v:=.tuple #[.slice da D.length dc,.int .i64 0]) (by simp[results,Tryz.results150,go_sem]) rfl ⟨_,0,rfl,HT.out,HBw.out⟩
end Go.Proofs.YtafmbokfkbccaaaGreatDoor
namespace Go.Proofs.YtafmbokfkbccaaaGreatDoor
open Go.RowKit Go.Sort Go.Maps
def RunV (w:World) (v:Value) (r:RunD):Prop:=∃kv nv,v=.agg #[kv,nv,.int .i64 r.level,.int .i64 r.rounds,.bool r.done]∧Facts w kv r.known∧Facts w nv r.fresh
def RunO (b:Nat) (w:World) (v:Value) (r:RunD):Prop:=∃kv nv,v=.agg #[kv,nv,.int .i64 r.level,.int .i64 r.rounds,.bool r.done]∧OwnF w b kv r.known∧OwnF w b nv r.fresh
theorem RunO.none (b:Nat) (w:World):RunO b w (.agg #[.slice none 0 0,.slice none 0 0,.int .i64 0,.int .i64 0,.bool false]) noRun:=⟨_,_,rfl,OwnF.nil _ _,OwnF.nil _ _⟩
theorem RunV.below {w w':World} {v:Value} {r:RunD} (h:RunV w v r) (k:Below w.heap.size w w'):RunV w' v r:=by
 obtain⟨kv,nv,h1,h2,h3⟩:=h;exact⟨kv,nv,h1,h2.below k,h3.below k⟩
theorem RunO.stay {b:Nat} {w w':World} {v:Value} {r:RunD} (h:RunO b w v r) (hs:w.heap.size≤w'.heap.size) (hk:∀k,k<w.heap.size→b≤k→w'.heap[k]?=w.heap[k]?):RunO b w' v r:=by
 obtain⟨kv,nv,h1,h2,h3⟩:=h;exact⟨kv,nv,h1,h2.stay hs hk,h3.stay hs hk⟩
theorem RunO.base {b b':Nat} {w:World} {v:Value} {r:RunD} (h:RunO b w v r) (hb:b'≤b):RunO b' w v r:=by
 obtain⟨kv,nv,h1,h2,h3⟩:=h;exact⟨kv,nv,h1,h2.base hb,h3.base hb⟩
theorem row5 {w:World} {R:Nat} {u0 u1 u2 u3 u4:Value} {t:TypeId} (h:w.heap[R]?=some (.cells #[u0,u1,u2,u3,u4] t (0,0))):w.cell? ⟨R,0,none⟩=some u0∧w.cell? ⟨R,1,none⟩=some u1∧w.cell? ⟨R,2,none⟩=some u2∧w.cell? ⟨R,3,none⟩=some u3∧w.cell? ⟨R,4,none⟩=some u4∧
  (w.frozen? ⟨R,0,none⟩=false∧w.frozen? ⟨R,1,none⟩=false∧w.frozen? ⟨R,2,none⟩=false∧w.frozen? ⟨R,3,none⟩=false∧w.frozen? ⟨R,4,none⟩=false)∧R<w.heap.size:=
 ⟨by rw[cell_of_row _ _ _ _ _ _ h];rfl,by rw[cell_of_row _ _ _ _ _ _ h];rfl,by rw[cell_of_row _ _ _ _ _ _ h];rfl,by rw[cell_of_row _ _ _ _ _ _ h];rfl,by rw[cell_of_row _ _ _ _ _ _ h];rfl,
  ⟨by simp[World.frozen?,h],by simp[World.frozen?,h],by simp[World.frozen?,h],by simp[World.frozen?,h],by simp[World.frozen?,h]⟩,(Array.getElem?_eq_some_iff.1 h).1⟩
def put5 (w:World) (R:Nat) (x0 x1 x2 x3 x4:Value):World:=((((w.setCell ⟨R,0,none⟩ x0).setCell ⟨R,1,none⟩ x1).setCell ⟨R,2,none⟩ x2).setCell ⟨R,3,none⟩ x3).setCell ⟨R,4,none⟩ x4
theorem set_five {w:World} {R:Nat} {u0 u1 u2 u3 u4:Value} {t:TypeId} (h:w.heap[R]?=some (.cells #[u0,u1,u2,u3,u4] t (0,0))) (x0 x1 x2 x3 x4:Value):
  (put5 w R x0 x1 x2 x3 x4).heap[R]?=some (.cells #[x0,x1,x2,x3,x4] t (0,0)):=by
 unfold put5;rw[set_at (j:=4) (set_at (j:=3) (set_at (j:=2) (set_at (j:=1) (set_at (j:=0) h x0) x1) x2) x3) x4]
 rfl
theorem put5_tn (w:World) (R:Nat) (x0 x1 x2 x3 x4:Value):Tn R w (put5 w R x0 x1 x2 x3 x4):=
 (((((Tn.refl R w).setCell (Or.inl rfl) _).setCell (Or.inl rfl) _).setCell (Or.inl rfl) _).setCell (Or.inl rfl) _).setCell (Or.inl rfl) _
theorem set5 {w:World} {R:Nat} {u0 u1 u2 u3 u4:Value} {t:TypeId} (h:w.heap[R]?=some (.cells #[u0,u1,u2,u3,u4] t (0,0))) (x0 x1 x2 x3 x4:Value):
  (((((w.setCell ⟨R,0,none⟩ x0).setCell ⟨R,1,none⟩ x1).setCell ⟨R,2,none⟩ x2).setCell ⟨R,3,none⟩ x3).setCell ⟨R,4,none⟩ x4).cell? ⟨R,0,none⟩=some x0∧
  (((((w.setCell ⟨R,0,none⟩ x0).setCell ⟨R,1,none⟩ x1).setCell ⟨R,2,none⟩ x2).setCell ⟨R,3,none⟩ x3).setCell ⟨R,4,none⟩ x4).cell? ⟨R,1,none⟩=some x1∧
  (((((w.setCell ⟨R,0,none⟩ x0).setCell ⟨R,1,none⟩ x1).setCell ⟨R,2,none⟩ x2).setCell ⟨R,3,none⟩ x3).setCell ⟨R,4,none⟩ x4).cell? ⟨R,2,none⟩=some x2∧
  (((((w.setCell ⟨R,0,none⟩ x0).setCell ⟨R,1,none⟩ x1).setCell ⟨R,2,none⟩ x2).setCell ⟨R,3,none⟩ x3).setCell ⟨R,4,none⟩ x4).cell? ⟨R,3,none⟩=some x3∧
  (((((w.setCell ⟨R,0,none⟩ x0).setCell ⟨R,1,none⟩ x1).setCell ⟨R,2,none⟩ x2).setCell ⟨R,3,none⟩ x3).setCell ⟨R,4,none⟩ x4).cell? ⟨R,4,none⟩=some x4:=by
 have:=row5 (set_five h x0 x1 x2 x3 x4);unfold put5 at this;exact⟨this.1,this.2.1,this.2.2.1,this.2.2.2.1,this.2.2.2.2.1⟩
theorem OwnF.put {base R j:Nat} {w:World} {v x:Value} {l:List FactD} (h:OwnF w base v l) (hR:R<base):OwnF (w.setCell ⟨R,j,none⟩ x) base v l:=
 h.stay (by rw[size_setCell];exact Nat.le_refl _) fun k _ hk=>heap_setCell_other _ _ _ (by show k≠R;omega)
theorem OwnF.put5 {base R:Nat} {w:World} {v x0 x1 x2 x3 x4:Value} {l:List FactD} (h:OwnF w base v l) (hR:R<base):OwnF (put5 w R x0 x1 x2 x3 x4) base v l:=
 ((((h.put hR).put hR).put hR).put hR).put hR
theorem Below.put {n R j:Nat} {a b:World} {x:Value} (h:Below n a b) (hR:n≤R):Below n a (b.setCell ⟨R,j,none⟩ x):=h.setCell hR x
theorem Below.put5 {n R:Nat} {a b:World} {x0 x1 x2 x3 x4:Value} (h:Below n a b) (hR:n≤R):Below n a (put5 b R x0 x1 x2 x3 x4):=
 ((((Below.put h hR).setCell hR _).setCell hR _).setCell hR _).setCell hR _
theorem mades_end {K D acc:List FactB} (hK:Up K) (h:Mades K D acc):(200<(setF (K++D)).length→200<(setF (K++acc)).length)∧(¬200<(setF (K++D)).length→setF (K++D)=setF (K++acc)∧D=newOf K acc):=by
 constructor
 ·intro h1;have:=up_le (setF_up (K++D)) (t:=setF (K++acc)) fun f hf=>mem_setF.2 (by
   rcases List.mem_append.1 (mem_setF.1 hf) with h2|h2
   ·exact List.mem_append.2 (Or.inl h2)
   ·exact List.mem_append.2 (Or.inr (h.of f h2).1))
  omega
 ·intro h1;have hnd:(K++D).Nodup:=List.nodup_append.2 ⟨up_nodup hK,up_nodup h.up,fun a ha b hb e=>(h.of b hb).2 (e▸ha)⟩;have h2:=sub_len hnd (t:=setF (K++D)) fun f hf=>mem_setF.2 hf;rw[List.length_append] at h2;have hall:=h.all (by omega);refine⟨setF_congr fun f=> ?_,?_⟩
  ·rw[List.mem_append,List.mem_append]
   constructor
   ·rintro(h3|h3)
    ·exact Or.inl h3
    ·exact Or.inr (h.of f h3).1
   ·rintro(h3|h3)
    ·exact Or.inl h3
    ·by_cases h4:f∈K
     ·exact Or.inl h4
     ·exact Or.inr (hall f h3 h4)
  ·exact up_ext h.up (setF_up _) fun f=>by
    show f∈D↔f∈newOf K acc;rw[mem_newOf];exact⟨fun h3=>h.of f h3,fun h3=>hall f h3.1 h3.2⟩
def NextT (b:Nat) (w:World) (v:Value) (er:Int) (x:Int×RunD):Prop:=er=x.1∧RunO b w v x.2
set_option maxRecDepth 100000 in
set_option maxHeartbeats 4000000 in
theorem nextC (p:List RuleD) (hp:RightP p) (σ:RuleD→Nat) (r:RunD) (hr:RightN p (countP (p.map σ)) r) (hd:r.done=false) (hσ:∀s∈p.map σ,s<1000) (pv sv kv nv:Value) (w:World) (hpv:ruleK.sl Anyw w pv p) (hsv:intK.sl Anyw w sv (p.map σ)) (hk:Facts w kv r.known) (hn:Facts w nv r.fresh):
  Calls Tryz.prog 85 #[pv,sv,.agg #[kv,nv,.int .i64 r.level,.int .i64 r.rounds,.bool r.done]] w fun e w'=>∃v' er,e=.returned (.tuple #[v',.int .i64 er])∧NextT (w.heap.size+2) w' v' er (nextP p (p.map σ) r)∧Below w.heap.size w w':=by
 have hlev:=hr.lev;have hrnd:=hr.rnd;have hcs:countP (p.map σ)≤1000:=countP_le hσ;have HG:=hide hr.good;have HUp:=hide hr.up;have HSub:=hide hr.sub;obtain⟨K,N,lev,rn,dn⟩:=r;dsimp only at*;subst hd;have hfew:=HG.out.few;clear hr;obtain⟨pa,pc,rfl⟩:=Kind.slice hpv;obtain⟨sa,sc,hsa⟩:=Kind.slice hsv;subst hsa;obtain⟨ka,kc,rfl⟩:=sliceFacts hk;obtain⟨na,nc,rfl⟩:=sliceFacts hn;obtain⟨w2,hw2⟩:∃w2,w2=(w.alloc (.cells #[.slice ka K.length kc,.slice na N.length nc,.int .i64 lev,.int .i64 rn,.bool false] 47)).alloc (.cells #[.slice none 0 0,.slice none 0 0,.int .i64 0,.int .i64 0,.bool false] 47):=⟨_,rfl⟩;have hL2:Later w w2:=by rw[hw2];exact((Later.refl w).alloc _).alloc _
 have hz2:w2.heap.size=w.heap.size+2:=by rw[hw2];simp
 have HRb:Hid (w2.heap[w.heap.size]?=some (.cells #[.slice ka K.length kc,.slice na N.length nc,.int .i64 lev,.int .i64 rn,.bool false] 47 (0,0))):=by
  show _=_;rw[hw2,Below.heap_alloc _ _ _ (by simp)];exact heap_alloc_new w _
 have HRs:Hid (w2.heap[w.heap.size+1]?=some (.cells #[.slice none 0 0,.slice none 0 0,.int .i64 0,.int .i64 0,.bool false] 47 (0,0))):=by
  show _=_;have:=heap_alloc_new (w.alloc (.cells #[.slice ka K.length kc,.slice na N.length nc,.int .i64 lev,.int .i64 rn,.bool false] 47)) (.cells #[.slice none 0 0,.slice none 0 0,.int .i64 0,.int .i64 0,.bool false] 47);rw[hw2];simpa using this
 have HMk:=hide (makesC p hp σ ⟨K,N,lev,rn,false⟩ HG.out HUp.out HSub.out (.slice pa p.length pc) (.slice sa (p.map σ).length sc) (.slice ka K.length kc) (.slice na N.length nc) w2 (Kind.sl_later hpv hL2) (Kind.sl_later hsv hL2) (hk.later hL2) (hn.later hL2));have HK2:=hide (hk.later hL2);have HSV:=hide hsv;have HL2:=hide hL2;have HSig:=hide hσ;have HGN:=hide HG.out.up;generalize hss:p.map σ=ss at*;clear hpv hsv hk hn hp hσ hss HUp HSub hL2
 by_cases h1000:rn=1000
 ·subst h1000;have HT:Hid (∀w' v',RunO (w.heap.size+2) w' v' noRun→NextT (w.heap.size+2) w' v' 5 (nextP p ss ⟨K,N,lev,1000,false⟩)):=fun w' v' h=>by unfold nextP;rw[if_pos rfl];exact⟨rfl,h⟩
  obtain⟨q0,q1,q2,q3,q4,_,_⟩:=row5 HRs.out;rw[hw2] at q0 q1 q2 q3 q4;have HB2:Hid (Below w.heap.size w w2):=HL2.out.below;rw[hw2] at HB2;clear hw2 HRb HRs HMk HK2 HSV HL2 hz2
  go_enter Tryz.func85,Tryz.ntmps85
  go_wp2;exact bodyPost_ret (v:=.tuple #[.agg #[.slice none 0 0,.slice none 0 0,.int .i64 0,.int .i64 0,.bool false],.int .i64 5]) (by simp[results,Tryz.results85,go_sem,q0,q1,q2,q3,q4]) rfl ⟨_,5,rfl,HT.out _ _ (RunO.none _ _),HB2.out⟩
 ·have hne:¬(rn=1000):=h1000;have HW2:=hide hw2;clear hw2
  go_enter Tryz.func85,Tryz.ntmps85
  go_wp2_with fail
  rw[←HW2.out];refine HMk.out.mono ?_;rintro e w3 ⟨v3,er,rfl,hT3,hB3⟩;have HB3:Hid (Below w.heap.size w w3):=below_trans HL2.out.below hB3 (by omega);have HRb3:Hid (w3.heap[w.heap.size]?=some (.cells #[.slice ka K.length kc,.slice na N.length nc,.int .i64 lev,.int .i64 rn,.bool false] 47 (0,0))):=by show _=_;rw[hB3.block _ (by omega)];exact HRb.out
  have HRs3:Hid (w3.heap[w.heap.size+1]?=some (.cells #[.slice none 0 0,.slice none 0 0,.int .i64 0,.int .i64 0,.bool false] 47 (0,0))):=by show _=_;rw[hB3.block _ (by omega)];exact HRs.out
  have HK3:=hide (HK2.out.below hB3);have hz3:w.heap.size+2≤w3.heap.size:=by have:=hB3.size;omega
  rw[hz2] at hT3;clear hB3 HMk HRb HRs HK2 HW2 HL2 hz2 w2;unfold MakesT at hT3;dsimp only at hT3;have hnx:nextP p ss ⟨K,N,lev,rn,false⟩=match makesGo K N lev p ss [] with
   |none=>(4,noRun)
   |some acc=>if 200<(setF (K++acc)).length then(5,noRun) else
    if newOf K acc=[] then(0,⟨setF (K++acc),setF (K++acc),lev+1,rn+1,decide (lev+1=countP ss)⟩)
    else(0,⟨setF (K++acc),newOf K acc,lev,rn+1,false⟩):=by unfold nextP;rw[if_neg hne];dsimp only;cases makesGo K N lev p ss [] <;> rfl
  have HNx:=hide hnx;clear hnx hne h1000;cases hmk:makesGo K N lev p ss [] with
  |none=>
   rw[hmk] at hT3;obtain⟨rfl,rfl⟩:=hT3;have HT:Hid (∀w' v',RunO (w.heap.size+2) w' v' noRun→NextT (w.heap.size+2) w' v' 4 (nextP p ss ⟨K,N,lev,rn,false⟩)):=fun w' v' h=>by rw[HNx.out,hmk];exact⟨rfl,h⟩
   obtain⟨q0,q1,q2,q3,q4,⟨f0,f1,f2,f3,f4⟩,qz⟩:=row5 HRs3.out;clear hmk HNx HK3 HSV HG HGN HSig;go_wp2;obtain⟨r0,r1,r2,r3,r4⟩:=set5 HRs3.out (.slice none 0 0) (.slice none 0 0) (.int .i64 0) (.int .i64 0) (.bool false);exact bodyPost_ret (v:=.tuple #[.agg #[.slice none 0 0,.slice none 0 0,.int .i64 0,.int .i64 0,.bool false],.int .i64 4]) (by simp[results,Tryz.results85,go_sem,r0,r1,r2,r3,r4]) rfl ⟨_,4,rfl,HT.out _ _ (RunO.none _ _),Below.put5 HB3.out (Nat.le_succ _)⟩
  |some acc=>
   rw[hmk] at hT3;obtain⟨rfl,D,hO3,hM3⟩:=hT3;obtain⟨da,dc,rfl⟩:=hO3.slice;have hend:=mades_end HGN.out hM3;have hDf:=hM3.few;have HJ:=hide (joinC (.slice ka K.length kc) (.slice da D.length dc) K D w3 HK3.out (hO3.facts (by omega)) (by omega));obtain⟨b0,b1,b2,b3,b4,_,_⟩:=row5 HRb3.out;have HO3:=hide hO3;have HEnd:=hide hend;rw[hmk] at HNx;have HNx2:=hide HNx.out;clear hmk hO3 hM3 hend HNx HK3
   go_wp2_with fail
   refine HJ.out.mono ?_;rintro e w4 ⟨v4,s,rfl,hS,hO4,hL4⟩;obtain rfl:s=setF (K++D):=setF_of hS.1 hS.2.1;have hs4l:(setF (K++D)).length≤100000:=by have:=setF_len (K++D);rw[List.length_append] at this;omega
   obtain⟨a4,c4,rfl⟩:=hO4.slice;have HB4:Hid (Below w.heap.size w w4):=below_trans HB3.out hL4.below HB3.out.size;have HRb4:Hid (w4.heap[w.heap.size]?=some (.cells #[.slice ka K.length kc,.slice na N.length nc,.int .i64 lev,.int .i64 rn,.bool false] 47 (0,0))):=by show _=_;rw[hL4.block (by omega)];exact HRb3.out
   have HRs4:Hid (w4.heap[w.heap.size+1]?=some (.cells #[.slice none 0 0,.slice none 0 0,.int .i64 0,.int .i64 0,.bool false] 47 (0,0))):=by show _=_;rw[hL4.block (by omega)];exact HRs3.out
   have HO3':Hid (OwnF w4 (w.heap.size+2) (.slice da D.length dc) D):=(HO3.out.later hL4).base (by omega);have HO4:Hid (OwnF w4 (w.heap.size+2) (.slice a4 (setF (K++D)).length c4) (setF (K++D))):=hO4.base (by omega);have hz4:w.heap.size+2≤w4.heap.size:=by have:=hL4.size;omega
   clear b0 b1 b2 b3 b4 hS hO4 hL4 HO3 HB3 HRb3 HRs3 HJ hz3;obtain⟨b0,b1,b2,b3,b4,⟨g0,g1,g2,g3,g4⟩,bz⟩:=row5 HRb4.out;obtain⟨q0,q1,q2,q3,q4,⟨f0,f1,f2,f3,f4⟩,qz⟩:=row5 HRs4.out
   by_cases hbig:200<(setF (K++D)).length
   ·have HT:Hid (∀w' v',RunO (w.heap.size+2) w' v' noRun→NextT (w.heap.size+2) w' v' 5 (nextP p ss ⟨K,N,lev,rn,false⟩)):=fun w' v' h=>by rw[HNx2.out,if_pos (HEnd.out.1 hbig)];exact⟨rfl,h⟩
    have hbz:(200:Int)<((setF (K++D)).length:Int):=by omega
    have HR5:Hid ((w4.setCell ⟨w.heap.size,0,none⟩ (.slice a4 (setF (K++D)).length c4)).heap[w.heap.size+1]?=some (.cells #[.slice none 0 0,.slice none 0 0,.int .i64 0,.int .i64 0,.bool false] 47 (0,0))):=by show _=_;rw[heap_setCell_other _ _ _ (by show w.heap.size+1≠w.heap.size;omega)];exact HRs4.out
    clear HEnd HNx2 HSV HO3' HO4 HG HGN HSig;go_wp2;obtain⟨r0,r1,r2,r3,r4⟩:=set5 HR5.out (.slice none 0 0) (.slice none 0 0) (.int .i64 0) (.int .i64 0) (.bool false);exact bodyPost_ret (v:=.tuple #[.agg #[.slice none 0 0,.slice none 0 0,.int .i64 0,.int .i64 0,.bool false],.int .i64 5]) (by simp[results,Tryz.results85,go_sem,r0,r1,r2,r3,r4]) rfl ⟨_,5,rfl,HT.out _ _ (RunO.none _ _),Below.put5 (Below.put HB4.out (Nat.le_refl _)) (Nat.le_succ _)⟩
   ·obtain⟨eK,eD⟩:=HEnd.out.2 hbig;have hbz:¬(200:Int)<((setF (K++D)).length:Int):=by omega
    by_cases hD0:D=[]
    ·have hd0:((D.length:Int)=0):=by rw[hD0];rfl
     have HT:Hid (∀w' v',RunO (w.heap.size+2) w' v' ⟨setF (K++D),setF (K++D),lev+1,rn+1,lev+1==((countP ss:Nat):Int)⟩→NextT (w.heap.size+2) w' v' 0 (nextP p ss ⟨K,N,lev,rn,false⟩)):=fun w' v' h=>by
      rw[HNx2.out,if_neg (by rw[←eK];exact hbig),if_pos (by rw[←eD];exact hD0),←eK];exact⟨rfl,h⟩
     clear hD0;generalize setF (K++D)=Z at*;obtain⟨w7,hw7⟩:∃w7,w7=((w4.setCell ⟨w.heap.size,0,none⟩ (.slice a4 Z.length c4)).setCell ⟨w.heap.size,1,none⟩ (.slice da D.length dc)).setCell ⟨w.heap.size,2,none⟩ (.int .i64 (lev+1)):=⟨_,rfl⟩;have hO7:OwnF w7 (w.heap.size+2) (.slice a4 Z.length c4) Z:=by rw[hw7];exact((HO4.out.put (by omega)).put (by omega)).put (by omega)
     have HB7:Hid (Below w.heap.size w w7):=by show Below _ _ _;rw[hw7];exact Below.put (Below.put (Below.put HB4.out (Nat.le_refl _)) (Nat.le_refl _)) (Nat.le_refl _)
     have hz7:w7.heap.size=w4.heap.size:=by rw[hw7,size_setCell,size_setCell,size_setCell]
     have hr7:w7.heap[w.heap.size]?=some (.cells #[.slice a4 Z.length c4,.slice da D.length dc,.int .i64 (lev+1),.int .i64 rn,.bool false] 47 (0,0)):=by
      rw[hw7,set_at (j:=2) (set_at (j:=1) (set_at (j:=0) HRb4.out _) _) _];rfl
     have hs7:w7.heap[w.heap.size+1]?=some (.cells #[.slice none 0 0,.slice none 0 0,.int .i64 0,.int .i64 0,.bool false] 47 (0,0)):=by
      rw[hw7,heap_setCell_other _ _ _ (by show w.heap.size+1≠w.heap.size;omega),heap_setCell_other _ _ _ (by show w.heap.size+1≠w.heap.size;omega),heap_setCell_other _ _ _ (by show w.heap.size+1≠w.heap.size;omega)];exact HRs4.out
     have HOw:=hide (ownC (.slice a4 Z.length c4) Z w7 (hO7.facts (by omega)));have HO7:=hide hO7;have HR7:=hide hr7;have HS7:=hide hs7;have HW7:=hide hw7;clear HEnd HNx2 HG HGN eK eD hO7 hr7 hs7 hw7 HO3' HO4
     go_wp2_with fail
     rw[←HW7.out];refine HOw.out.mono ?_;rintro e w8 ⟨v8,rfl,hO8,hL8⟩;obtain⟨a8,c8,rfl⟩:=hO8.slice;clear b0 b1 b2 b3 b4 q0 q1 q2 q3 q4 g0 g1 g2 g3 g4 f0 f1 f2 f3 f4;have hr8:w8.heap[w.heap.size]?=some (.cells #[.slice a4 Z.length c4,.slice da D.length dc,.int .i64 (lev+1),.int .i64 rn,.bool false] 47 (0,0)):=by rw[hL8.block (by omega)];exact HR7.out
     have hs8:w8.heap[w.heap.size+1]?=some (.cells #[.slice none 0 0,.slice none 0 0,.int .i64 0,.int .i64 0,.bool false] 47 (0,0)):=by rw[hL8.block (by omega)];exact HS7.out
     have hz8:=hL8.size;obtain⟨w9,hw9⟩:∃w9,w9=w8.setCell ⟨w.heap.size,1,none⟩ (.slice a8 Z.length c8):=⟨_,rfl⟩;have hr9:w9.heap[w.heap.size]?=some (.cells #[.slice a4 Z.length c4,.slice a8 Z.length c8,.int .i64 (lev+1),.int .i64 rn,.bool false] 47 (0,0)):=by rw[hw9,set_at (j:=1) hr8 _];rfl
     have hs9:w9.heap[w.heap.size+1]?=some (.cells #[.slice none 0 0,.slice none 0 0,.int .i64 0,.int .i64 0,.bool false] 47 (0,0)):=by rw[hw9,heap_setCell_other _ _ _ (by show w.heap.size+1≠w.heap.size;omega)];exact hs8
     have HB9:Hid (Below w.heap.size w w9):=by show Below _ _ _;rw[hw9];exact Below.put (below_trans HB7.out hL8.below HB7.out.size) (Nat.le_refl _)
     have HO49:Hid (OwnF w9 (w.heap.size+2) (.slice a4 Z.length c4) Z):=by show OwnF _ _ _ _;rw[hw9];exact(HO7.out.later hL8).put (by omega)
     have HO89:Hid (OwnF w9 (w.heap.size+2) (.slice a8 Z.length c8) Z):=by show OwnF _ _ _ _;rw[hw9];exact(hO8.base (by omega)).put (by omega)
     have hz9:w9.heap.size=w8.heap.size:=by rw[hw9,size_setCell]
     have HR9:=hide hr9;have HS9:=hide hs9;have HW9:=hide hw9;obtain⟨b0,b1,b2,b3,b4,⟨g0,g1,g2,g3,g4⟩,_⟩:=row5 hr8;have HCn:=hide (countC ss (.slice sa ss.length sc) w9.drew (Kind.sl_below HSV.out HB9.out.drew) HSig.out);have c29:=(row5 hr9).2.2.1;clear hO8 hL8 hr8 hs8 hr9 hs9 hw9 HOw HO7 HR7 HS7 HW7 HRb4 HRs4;go_wp2;rw[←HW9.out];clear b0 b1 b2 b3 b4 g0 g1 g2 g3 g4;refine wp_region_held_drew (S:=fun w'=>w'.cell? ⟨w.heap.size,2,none⟩=some (.int .i64 (lev+1))∧Tn w.heap.size w9 w') (by kernel_rfl) ⟨c29,(Tn.refl _ _).drew⟩ (fun hHeld=> ?_);refine take_yes (i:=0) (d:=some 48) (v:= ?_) rfl rfl hHeld ?_ ?_;rotate_left;focus intro w hSw;(try dsimp only at hSw);go_simp;try with_reducible rfl
     simp only[aput,aset,aze,asu];refine take_yes (i:=1) (d:=some 49) (v:= ?_) rfl rfl hHeld ?_ ?_;rotate_left;focus intro w hSw;(try dsimp only at hSw);have qq:=hSw.1;go_simp;try with_reducible rfl
     simp only[aput,aset,aze,asu];refine take_yes (i:=2) (d:=some 50) (v:= ?_) rfl rfl hHeld ?_ ?_;rotate_left;focus intro w hSw;(try dsimp only at hSw);go_simp;try with_reducible rfl
     simp only[aput,aset,aze,asu];refine wpAnyH_ready (rs:=[3]) (by kernel_rfl) (by simp) ?_;refine AllReadyH.cons rfl (fun K hK=> ?_) AllReadyH.nil;go_simp;refine HCn.out.mono ?_;rintro e w10 ⟨rfl,hL10⟩;have hL910:Below w9.heap.size w9 w10:=below_trans (Below.refl _ _).drew hL10.below (Nat.le_refl _);have hr10:w10.heap[w.heap.size]?=some (.cells #[.slice a4 Z.length c4,.slice a8 Z.length c8,.int .i64 (lev+1),.int .i64 rn,.bool false] 47 (0,0)):=by rw[hL910.block _ (by omega)];exact HR9.out
     obtain⟨b0,b1,b2,b3,b4,⟨g0,g1,g2,g3,g4⟩,_⟩:=row5 hr10;refine hK.out _ _ ⟨b2,Tn.of_below hL910⟩ (fun hHeld=> ?_);clear hK K;refine take_yes (i:=4) (d:=some 52) (v:= ?_) rfl rfl hHeld ?_ ?_;rotate_left;focus intro w hSw;(try dsimp only at hSw);go_simp;try with_reducible rfl
     simp only[aput,aset,aze,asu];refine take_yes (i:=5) (d:=some 53) (v:= ?_) rfl rfl hHeld ?_ ?_;rotate_left;focus intro w hSw;(try dsimp only at hSw);go_simp;try with_reducible rfl
     simp only[aput,aset,aze,asu];refine wpAnyH_ready (rs:=[6]) (by kernel_rfl) (by simp) ?_;refine AllReadyH.cons rfl (fun K hK=> ?_) AllReadyH.nil;go_simp;have hs10:w10.heap[w.heap.size+1]?=some (.cells #[.slice none 0 0,.slice none 0 0,.int .i64 0,.int .i64 0,.bool false] 47 (0,0)):=by rw[hL910.block _ (by omega)];exact HS9.out
     refine hK.out _ _ ⟨by rw[World.cell?_setCell_other _ _ _ _ (by simp)];exact b2,Tn.setCell (p:=w.heap.size) (Tn.of_below hL910) (x:=⟨w.heap.size,4,none⟩) (Or.inl rfl) _⟩ (fun hHeld=> ?_);clear hK K;refine wpAnyH_done (by kernel_rfl) ?_ _;have HR12:Hid (((w10.setCell ⟨w.heap.size,4,none⟩ (.bool (lev+1==((countP ss:Nat):Int)))).setCell ⟨w.heap.size,3,none⟩ (.int .i64 (rn+1))).heap[w.heap.size+1]?=some (.cells #[.slice none 0 0,.slice none 0 0,.int .i64 0,.int .i64 0,.bool false] 47 (0,0))):=by
      show _=_;rw[heap_setCell_other _ _ _ (by show w.heap.size+1≠w.heap.size;omega),heap_setCell_other _ _ _ (by show w.heap.size+1≠w.heap.size;omega)];exact hs10
     obtain⟨q0,q1,q2,q3,q4,⟨f0,f1,f2,f3,f4⟩,_⟩:=row5 hs10;have HB10:Hid (Below w.heap.size w w10):=below_trans HB9.out hL910 HB9.out.size;have HO410:Hid (OwnF w10 (w.heap.size+2) (.slice a4 Z.length c4) Z):=HO49.out.stay hL910.size fun k hk _=>hL910.block k hk;have HO810:Hid (OwnF w10 (w.heap.size+2) (.slice a8 Z.length c8) Z):=HO89.out.stay hL910.size fun k hk _=>hL910.block k hk;clear hHeld hL10 hL910 hr10 hs10 HB9 HO49 HO89 HR9 HS9 HW9 HCn c29;go_wp2;obtain⟨r0,r1,r2,r3,r4⟩:=set5 HR12.out (.slice a4 Z.length c4) (.slice a8 Z.length c8) (.int .i64 (lev+1)) (.int .i64 (rn+1)) (.bool (lev+1==((countP ss:Nat):Int)));exact bodyPost_ret (v:=.tuple #[.agg #[.slice a4 Z.length c4,.slice a8 Z.length c8,.int .i64 (lev+1),.int .i64 (rn+1),.bool (lev+1==((countP ss:Nat):Int))],.int .i64 0]) (by simp[results,Tryz.results85,go_sem,r0,r1,r2,r3,r4]) rfl
      ⟨_,0,rfl,HT.out _ _ ⟨_,_,rfl,(OwnF.put5 ((HO410.out.put (by omega)).put (by omega)) (by omega)),(OwnF.put5 ((HO810.out.put (by omega)).put (by omega)) (by omega))⟩,
       Below.put5 (Below.put (Below.put HB10.out (Nat.le_refl _)) (Nat.le_refl _)) (Nat.le_succ _)⟩
    ·have hd0:¬((D.length:Int)=0):=by
      cases D
      ·exact absurd rfl hD0
      ·simp;omega
     have HT:Hid (∀w' v',RunO (w.heap.size+2) w' v' ⟨setF (K++D),D,lev,rn+1,false⟩→NextT (w.heap.size+2) w' v' 0 (nextP p ss ⟨K,N,lev,rn,false⟩)):=fun w' v' h=>by
      rw[HNx2.out,if_neg (by rw[←eK];exact hbig),if_neg (by rw[←eD];exact hD0),←eK,←eD];exact⟨rfl,h⟩
     have HR5:Hid ((((w4.setCell ⟨w.heap.size,0,none⟩ (.slice a4 (setF (K++D)).length c4)).setCell ⟨w.heap.size,1,none⟩ (.slice da D.length dc)).setCell ⟨w.heap.size,3,none⟩ (.int .i64 (rn+1))).heap[w.heap.size+1]?=some (.cells #[.slice none 0 0,.slice none 0 0,.int .i64 0,.int .i64 0,.bool false] 47 (0,0))):=by
      show _=_;rw[heap_setCell_other _ _ _ (by show w.heap.size+1≠w.heap.size;omega),heap_setCell_other _ _ _ (by show w.heap.size+1≠w.heap.size;omega),heap_setCell_other _ _ _ (by show w.heap.size+1≠w.heap.size;omega)];exact HRs4.out
     clear HEnd HNx2 HSV HG HGN HSig eK eD;go_wp2;obtain⟨r0,r1,r2,r3,r4⟩:=set5 HR5.out (.slice a4 (setF (K++D)).length c4) (.slice da D.length dc) (.int .i64 lev) (.int .i64 (rn+1)) (.bool false);exact bodyPost_ret (v:=.tuple #[.agg #[.slice a4 (setF (K++D)).length c4,.slice da D.length dc,.int .i64 lev,.int .i64 (rn+1),.bool false],.int .i64 0]) (by simp[results,Tryz.results85,go_sem,r0,r1,r2,r3,r4]) rfl
      ⟨_,0,rfl,HT.out _ _ ⟨_,_,rfl,(OwnF.put5 (((HO4.out.put (by omega)).put (by omega)).put (by omega)) (by omega)),(OwnF.put5 (((HO3'.out.put (by omega)).put (by omega)).put (by omega)) (by omega))⟩,
       Below.put5 (Below.put (Below.put (Below.put HB4.out (Nat.le_refl _)) (Nat.le_refl _)) (Nat.le_refl _)) (Nat.le_succ _)⟩
end Go.Proofs.YtafmbokfkbccaaaGreatDoor
