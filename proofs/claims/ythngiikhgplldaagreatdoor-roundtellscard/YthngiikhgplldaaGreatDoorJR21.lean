import Derived.Maps.StringElems
import Derived.Maps.Ext
import Derived.Maps.RangeWalk
import Derived.Test.YthngiikhgplldaaGreatDoorJR2
import Derived.Test.YthngiikhgplldaaGreatDoorJR3
import Derived.Test.YthngiikhgplldaaGreatDoorJR5
import Derived.Test.YthngiikhgplldaaGreatDoorJR9
import Derived.Sort.KeysCollected
import Derived.Test.YthngiikhgplldaaGreatDoorJR14
import Derived.Test.YthngiikhgplldaaGreatDoorJR13
open Go.RowKit Go.Sort Go.Maps
set_option maxHeartbeats 4000000
set_option maxRecDepth 100000
namespace Go.Proofs.YthngiikhgplldaaGreatDoor
def kI (w:World) (b n:Nat) (l:List aI):Prop:=
 ∃D:DataW Unit,w.ownsMap Tryz.prog 9 (plainElem Tryz.prog 9) b n D∧∀s:Bs,Maps.has D (.string s)=(fu l (bs s)).isSome∧∀t,fu l (bs s)=some t→∀z,D.atKey (.string s) z=.lit (.string (raw t))
theorem kI.made (w:World):kI (w.alloc (.map #[] 0)) w.heap.size 0 []:=⟨.map [],World.ownsMap_made _ _ _ _,fun _=>⟨rfl,fun t h=>by cases h⟩⟩
theorem kI.lt {w:World} {b n:Nat} {l:List aI} (h:kI w b n l):b<w.heap.size:=by obtain⟨D,h,_⟩:=h;exact h.lt
theorem kI.block {w w':World} {b n:Nat} {l:List aI} (h:kI w b n l) (e:w'.heap[b]?=w.heap[b]?):kI w' b n l:=by obtain⟨D,h,hf⟩:=h;exact⟨D,dG h e,hf⟩
theorem kI.later {w w':World} {b n:Nat} {l:List aI} (h:kI w b n l) (k:aj w w'):kI w' b n l:=h.block (k.block h.lt)
theorem kI.below {w w':World} {b n:Nat} {l:List aI} (h:kI w b n l) (k:Below w.heap.size w w'):kI w' b n l:=h.block (k.block b h.lt)
theorem kI.mono {w:World} {b n m:Nat} {l:List aI} (h:kI w b n l) (hn:n≤m):kI w b m l:=by obtain⟨D,h,hf⟩:=h;exact⟨D,h.mono hn,hf⟩
theorem kI.isMap {w:World} {b n:Nat} {l:List aI} (h:kI w b n l):∃es c,w.heap[b]?=some (.map es c):=by obtain⟨D,⟨es,c,hb,_⟩,_⟩:=h;exact⟨es,c,hb⟩
theorem DL (w:World):(zeroValue 9).run Tryz.prog w=.ok (.string ByteArray.empty) w:=by kernel_rfl
theorem kI.look {w:World} {b n:Nat} {l:List aI} (h:kI w b n l) {s:Bs} (hs:s.length≤maxLen):(Instr.lookup 76 (.map (some b)) (.string (bs s)) true).run Tryz.prog w=.ok (.tuple #[.string ((fu l (bs s)).getD ByteArray.empty),.bool (fu l (bs s)).isSome]) w:=by
 obtain⟨D,hown,hf⟩:=h;obtain⟨h1,h2⟩:=hf s;obtain⟨v,ps,hrun,hv⟩:=hown.look_ok (string_keyed Tryz.underlying9) Tryz.underlying76 (DL w) (plainElem_string Tryz.underlying9 (by simp)) (jD Tryz.underlying9 hs);obtain⟨t,rfl,hz,_⟩:=plainElem_string_inv Tryz.underlying9 hv;simp only[Prod.mk.injEq] at hz;rw[hrun,h1];cases hg:fu l (bs s) with
 |none=>
  rw[hg] at h1;have h3:=Maps.atKey_of_not_has (D:=D) (k:=.string s) h1 (.lit (.string (ByteArray.empty).data.toList));rw[h3] at hz;have hz:=hz.1
  injection hz with hz
  injection hz with hz
  have:t=ByteArray.empty:=by apply wT;exact hz.symm
  rw[this];rfl
 |some x=>
  rw[h2 x hg] at hz;have hz:=hz.1
  injection hz with hz
  injection hz with hz
  have:t=x:=by apply wT;exact hz.symm
  rw[this];rfl
theorem kI.store {w:World} {b n:Nat} {l:List aI} (h:kI w b n l) (hn:n<maxLen) {s:Bs} (hs:s.length≤maxLen) (hg:fu l (bs s)=none) {x:ByteArray} (hx:x.size≤maxLen):
  ∃w',(Instr.mapUpdate 76 (.map (some b)) (.string (bs s)) (.string x)).run Tryz.prog w=.ok () w'∧kI w' b (n+1) (l++[(bs s,x)])∧w.grownBy w' (some b):=by
 obtain⟨D,hown,hf⟩:=h;obtain⟨w',hrun,r1,r2⟩:=hown.update (string_keyed Tryz.underlying9) Tryz.underlying76 hn (jD Tryz.underlying9 hs) (plainElem_string Tryz.underlying9 hx);refine⟨w',hrun,⟨_,r1,fun t=>?_⟩,r2⟩;have e1:fu (l++[(bs s,x)]) (bs t)=if t=s then some x else fu l (bs t):=by
  rw[gF]
  by_cases e:t=s
  ·subst e;rw[hg,if_pos rfl];simp[fu]
  rw[if_neg e];cases fu l (bs t) with
  |some y=>rfl
  |none=>
   have:bs s≠bs t:=fun h=>e (oD h).symm;simp[fu,this]
 rw[e1]
 by_cases e:t=s
 ·subst e;rw[if_pos rfl];exact⟨by rw[has_put_same hown.isMap (CY _)];rfl,fun y hy z=>by cases hy;rw[atKey_put_same hown.isMap (CY _)];rfl⟩
 rw[if_neg e];exact⟨by rw[has_put_other (kK e),(hf t).1],fun y hy z=>by rw[atKey_put_other (kK e)];exact(hf t).2 y hy z⟩
def LP (w:World) (lo n:Nat) (e:Ending):Option (List aI)→Prop
 |none=>e=.returned (.map none)
 |some l=>∃b,e=.returned (.map (some b))∧lo≤b∧kI w b n l
theorem zQ {l:List aI} {ts:List dM} {xs:List ByteArray} {j:Nat} {t:dM} {x:ByteArray} (ht:ts[j]?=some t) (hx:xs[j]?=some x):
  dN l (ts.drop j) (xs.drop j)=match bH l t with
   |none=>dN (l++[(bs t.2,x)]) (ts.drop (j+1)) (xs.drop (j+1))
   |some s=>if s=x then dN l (ts.drop (j+1)) (xs.drop (j+1)) else none:=by
 have h1:ts.drop j=t::ts.drop (j+1):=by obtain⟨h,e⟩:=List.getElem?_eq_some_iff.1 ht;rw[List.drop_eq_getElem_cons h,e]
 have h2:xs.drop j=x::xs.drop (j+1):=by obtain⟨h,e⟩:=List.getElem?_eq_some_iff.1 hx;rw[List.drop_eq_getElem_cons h,e]
 rw[h1,h2]
 rfl
theorem LQ (a:aJ) (f:aF) (l:List aI) (b n q:Nat) (tv fv:Value) (w:World) (ht:gJ.sl bT w tv a.terms) (hf:dh w fv f) (he:kI w b n l) (h4:a.terms.length≤q) (hn:n+q≤10000000) (hts:∀t∈a.terms,t.2.length≤maxLen) (hfs:∀s∈f.2,s.size≤maxLen):
  Calls Tryz.prog 43 #[.agg #[.bool a.no,.string (bs a.name),tv],fv,.map (some b)] w fun e w'=>LP w' w.heap.size (n+q) e (fA a f l)∧Below w.heap.size w w':=by
 obtain⟨sf,rfl,hsf⟩:=hf;obtain⟨ta,tc,rfl⟩:=aB.slice ht;obtain⟨fa,fc,rfl⟩:=bP hsf;obtain⟨no,name,ts⟩:=a;obtain⟨fn,args⟩:=f;dsimp only at*;have KI:=hsf.1;have HT:=au ht;have HSF:=au hsf;have HE:=au he;have HTS:=au hts;have HFS:=au hfs;clear ht hsf he hts hfs;obtain⟨nm,hnm⟩:∃nm,nm=bs name:=⟨_,rfl⟩;rw[←hnm]
 by_cases hname:nm=fn
 ·by_cases hlen:ts.length=args.length
  ·have HM:Hid (fA ⟨no,name,ts⟩ (fn,args) l=dN l (ts.drop 0) (args.drop 0)):=by
    show _=_;unfold fA;rw[if_pos ⟨by rw[←hnm];exact hname,hlen⟩]
    rfl
   generalize fA ⟨no,name,ts⟩ (fn,args) l=res at*;clear hnm;subst hname;have hmm:= @run_makeMap Tryz.prog;obtain⟨D0,hown,hD0⟩:=HE.out;have hsz0:=hown.size_le;have hbl:=hown.lt;obtain⟨w2,hw2⟩:∃w2,w2=(w.alloc (.cells #[.bool no,.string nm,.slice ta ts.length tc] 54)).alloc (.cells #[.string nm,.slice fa args.length fc] 50):=⟨_,rfl⟩;have hL2:aj w w2:=by rw[hw2];exact((aj.refl w).alloc _).alloc _
   have hs2:w2.heap.size=w.heap.size+2:=by rw[hw2];simp
   have hown2:(w2.alloc (.map #[] 0)).ownsMap Tryz.prog 9 (plainElem Tryz.prog 9) b n D0:=(dG hown (hL2.block hbl)).alloc _;have hR0:(w2.alloc (.map #[] 0)).heap[w.heap.size]?=some (.cells #[.bool no,.string nm,.slice ta ts.length tc] 54 (0,0)):=by
    rw[hw2];simp only[fT,World.size_alloc]
    repeat (first|rw[if_pos trivial]|rw[if_pos (by omega)]|rw[if_neg (by omega)])
   have hR1:(w2.alloc (.map #[] 0)).heap[w.heap.size+1]?=some (.cells #[.string nm,.slice fa args.length fc] 50 (0,0)):=by
    rw[hw2];simp only[fT,World.size_alloc]
    repeat (first|rw[if_pos trivial]|rw[if_pos (by omega)]|rw[if_neg (by omega)])
   have hMd:(w2.alloc (.map #[] 0)).ownsMap Tryz.prog 9 (plainElem Tryz.prog 9) (w.heap.size+2) 0 (.map []:DataW Unit):=by rw[←hs2];exact World.ownsMap_made _ _ _ _
   have hL3:aj w (w2.alloc (.map #[] 0)):=hL2.alloc _;have e1:(w2.alloc (.map #[] 0)).heap.size=w.heap.size+3:=by simp[hs2]
   obtain⟨w3,hw3⟩:∃w3,w3=w2.alloc (.map #[] 0):=⟨_,rfl⟩;rw[←hw3] at hown2 hR0 hR1 hMd hL3 e1;rw[hw2] at hw3;have LU:Hid (∀j,j<args.length→∃t,ts[j]?=some t):=fun j hj=>⟨_,List.getElem?_eq_getElem (by omega)⟩;have h4a:args.length≤q:=by omega
   have JC:Hid (ts.drop args.length=[]):=List.drop_eq_nil_of_le (by omega);rw[hlen] at*;have HW3:=au hw3;have HL3:=au hL3.below;have KJ:=au hown;have Ht:=au hown2;have HMd:=au hMd;have HD0:=au hD0;have HR0:=au hR0;have HR1:=au hR1;clear hw2 hL2 hown hown2 hD0 hR0 hR1 hMd hL3 hw3 hs2;have hKs:=string_keyed (P:=Tryz.prog) Tryz.underlying9
   go_enter Tryz.func43,Tryz.ntmps43
   go_wp2_with (first
    |(at_range;rw[←HW3.out];refine wpList_range_own _ rfl _ 76 rfl 9 9 hKs Tryz.underlying76 _ b n _ rfl Ht.out ?_;intro w0 hrg0 hg0 hs0)
    |go_in)
   try go_frame
   rw[e1] at hrg0 hs0
   go_loopw [32] (fun _ wr=>∃(left:Lit→Bool) (cnt:Nat) (Dout:DataW Unit),wr.ranges Tryz.prog 9 (plainElem Tryz.prog 9) b (w.heap.size+3) n D0 left cnt∧cnt≤Maps.size D0∧
     wr.ownsMap Tryz.prog 9 (plainElem Tryz.prog 9) (w.heap.size+2) (Maps.size D0-cnt) Dout∧Agree Dout D0 left∧Below w.heap.size w wr∧
     wr.heap[w.heap.size]?=some (.cells #[.bool no,.string nm,.slice ta args.length tc] 54 (0,0))∧wr.heap[w.heap.size+1]?=some (.cells #[.string nm,.slice fa args.length fc] 50 (0,0))∧w.heap.size+3<wr.heap.size)
    (fun _ wr=>wr.rangeLeft b (w.heap.size+3))
   case atStart=>
    refine⟨_,_,.map [],hrg0,Nat.le_refl _,(HMd.out.kept hg0 (by simp)).mono (Nat.zero_le _),agree_start D0,HL3.out.grown hg0 (by omega) (fun j hj=>by cases hj),?_,?_,by omega⟩;·rw[hg0.block _ (by omega) (by simp)];exact HR0.out
    rw[hg0.block _ (by omega) (by simp)];exact HR1.out
   clear hrg0 hg0 hs0;obtain⟨left,cnt,Dout,hrg,hcs,hout,hA,hnx,hr0,hr1,hsz⟩:=hrel
   go_wp2_with (first
    |(at_next;refine wpList_next_ranges _ rfl _ rfl 9 hKs (plainElem Tryz.prog 9) encStr Value.string (fun key kl hk=>by obtain⟨x,hx,_⟩:=Maps.keyOf_str Tryz.underlying9 hk;exact⟨x,hx⟩) (fun v y hv=>by obtain⟨c,rfl,_⟩:=plainElem_string_inv Tryz.underlying9 hv;exact⟨c,rfl⟩) b (w.heap.size+3) n _ _ _ rfl hrg ?_ ?_)
    |go_in)
   ·intro hc0 hl0;subst hc0;have e:=agree_end hA hl0 (hout.canon hKs) (KJ.out.canon hKs);subst e;have HEn:Hid (kI wr (w.heap.size+2) (n+0) l):=⟨Dout,hout.mono (by omega),HD0.out⟩;have HBn:=au hnx;have HR0:=au hr0;have HR1:=au hr1;have c2:wr.cell? ⟨w.heap.size,2,none⟩=some (.slice ta args.length tc):=by rw[cell_of_row _ _ _ _ _ _ hr0];rfl
    clear hrg hcs hout hA hnx hr0 hr1 KJ Ht HMd HD0 hsz0 HE hbl HL3 HW3 e1;have M4:((0:Nat):Int)≤(args.length:Int):=by omega
    go_wp2
    go_loopg [43] args.length (fun g i wr2=>∃j:Nat,j+g=args.length∧i=.int .i64 j∧∃lj,Hid (kI wr2 (w.heap.size+2) (n+j) lj)∧Hid (res=dN lj (ts.drop j) (args.drop j))∧Hid (Below w.heap.size w wr2)∧
     Hid (wr2.heap[w.heap.size+1]?=some (.cells #[.string nm,.slice fa args.length fc] 50 (0,0)))∧w.heap.size+3<wr2.heap.size)
    case atStart=>exact⟨0,by omega,rfl,l,HEn,HM,HBn,HR1,hsz⟩
    clear HEn HBn HR0 HR1 HM c2 hsz;rename_i wo;obtain⟨j,hj,rfl,lj,HEn,HM,HBn,HR1,hsz⟩:=hrel
    by_cases hlt:j<args.length
    ·obtain⟨t,htj⟩:=LU.out j hlt;obtain⟨x,hxj⟩:∃x,args[j]?=some x:=⟨_,List.getElem?_eq_getElem hlt⟩;obtain⟨b1,o1,_,rfl,hb1,rfl,hc⟩:=aB.bR HT.out htj;obtain⟨_,a3,M5,ea,hc3⟩:=HSF.out
     injection ea with e1' e2' e3'
     subst e1';subst e3';obtain⟨b3,o3,rfl,hb3,hc3⟩:=hc3 (by intro e;rw[e] at hlt;simp at hlt);have d0:wr.cell? ⟨b1,o1+j*2,none⟩=some (.bool t.1):=by rw[HBn.out.cell (p:=⟨b1,o1+j*2,none⟩) hb1];exact hc 0 _ rfl
     have d1:wr.cell? ⟨b1,o1+j*2+1,none⟩=some (.string (bs t.2)):=by rw[HBn.out.cell (p:=⟨b1,o1+j*2+1,none⟩) hb1];exact hc 1 _ rfl
     have d3:wr.cell? ⟨b3,o3+j,none⟩=some (.string x):=by rw[HBn.out.cell (p:=⟨b3,o3+j,none⟩) hb3,hc3 j hlt,List.getD_eq_getElem?_getD,hxj];rfl
     have f1:wr.cell? ⟨w.heap.size+1,1,none⟩=some (.slice (some ⟨b3,o3,none⟩) args.length fc):=by rw[cell_of_row _ _ _ _ _ _ HR1.out];rfl
     have hstep:=zQ (l:=lj) htj hxj;have HTl:=HTS.out t (List.mem_of_getElem? htj);have HXl:=HFS.out x (List.mem_of_getElem? hxj);have LV:b1<wr.heap.size:=by omega
     have LW:b3<wr.heap.size:=by omega
     have M6:w.heap.size+1<wr.heap.size:=by omega
     obtain⟨wt,hwt⟩:∃wt,wt=wr.alloc (.cells #[.bool t.1,.string (bs t.2)] 98):=⟨_,rfl⟩;have hLt:aj wr wt:=by rw[hwt];exact(aj.refl _).alloc _
     have hEt:=HEn.out.later hLt;have hBt:Below w.heap.size w wt:=ak HBn.out hLt.below HBn.out.size;have hRt:=(hLt.block (Array.getElem?_eq_some_iff.1 HR1.out).1).trans HR1.out;have hst:wt.heap.size=wr.heap.size+1:=by rw[hwt];simp
     clear hc hc3 htj hxj;obtain⟨t1,t2⟩:=t;dsimp only at*;cases t1
     ·have hw:bH lj (false,t2)=some (bs t2):=by simp[bH]
      rw[hw] at hstep;dsimp only at hstep
      by_cases hx:bs t2=x
      ·rw[if_pos hx,←HM.out] at hstep;have HM':=au hstep;have HE':=au (hEt.mono (Nat.le_succ _));have HB':=au hBt;have HR':=au hRt;rw[hwt] at HE' HB' HR';rw[←hx] at d3;clear hstep hw hx hEt hBt hRt hwt hLt HEn HM HTl HXl;generalize bs t2=tk at*;go_wp2
       go_roundg (args.length- (j+1))
       case measure=>omega
       case rel=>exact⟨j+1,by omega,by go_num,lj,HE',HM',HB',HR',by simp;omega⟩
      rw[if_neg hx,←HM.out] at hstep;have HB':=au hBt;rw[hwt] at HB';have hne:((bs t2).toList==x.toList)=false:=by rw[jW];simp[hx]
      have HN:=au hstep;clear hstep hw hEt hBt hRt hwt hLt HEn HTl HXl HM hx;generalize bs t2=tk at*;go_wp2;go_ret;refine⟨?_,HB'.out⟩;rw[HN.out];exact rfl
     have hlk:=hEt.look (s:=t2) HTl;have hw:bH lj (true,t2)=fu lj (bs t2):=by simp[bH]
     rw[hw] at hstep;cases hg:fu lj (bs t2) with
     |some y=>
      rw[hg] at hstep hlk;dsimp only[Option.getD_some,Option.isSome_some] at hstep hlk
      by_cases hx:y=x
      ·rw[if_pos hx,←HM.out] at hstep;subst hx;have HM':=au hstep;have HE':=au (hEt.mono (Nat.le_succ _));have HB':=au hBt;have HR':=au hRt;have HLk:=au hlk;rw[hwt] at HE' HB' HR' HLk;clear hstep hw hg hEt hBt hRt hwt hLt HEn HM HTl HXl hlk;generalize bs t2=tk at*
       go_wp2_with (at_lookup;refine bM _ rfl _ _ _ _ rfl _ _ _ rfl rfl HLk.out ?_)
       go_roundg (args.length- (j+1))
       case measure=>omega
       case rel=>exact⟨j+1,by omega,by go_num,lj,HE',HM',HB',HR',by simp;omega⟩
      rw[if_neg hx,←HM.out] at hstep;have HN:=au hstep;have HB':=au hBt;have HLk:=au hlk;rw[hwt] at HB' HLk;have hne:(y.toList==x.toList)=false:=by rw[jW];simp[hx]
      clear hstep hw hg hEt hBt hRt hwt hLt HEn HM HTl HXl hlk hx;generalize bs t2=tk at*
      go_wp2_with (at_lookup;refine bM _ rfl _ _ _ _ rfl _ _ _ rfl rfl HLk.out ?_)
      go_ret;refine⟨?_,HB'.out⟩;rw[HN.out];exact rfl
     |none=>
      obtain⟨w6,hup,hE6,hg6⟩:=hEt.store (by unfold maxLen;omega) HTl hg HXl;rw[hg] at hstep hlk;dsimp only[Option.getD_none,Option.isSome_none] at hstep hlk;rw[←HM.out] at hstep;have HM':=au hstep;have HE':=au hE6;have hB6:Below w.heap.size w w6:=hBt.grown hg6 hBt.size (fun j hj=>by cases hj;omega);have hR6:w6.heap[w.heap.size+1]?=some (.cells #[.string nm,.slice (some ⟨b3,o3,none⟩) args.length fc] 50 (0,0)):=by rw[hg6.block _ (by omega) (fun e=>by have:=Option.some.inj e;omega)];exact hRt
      have hs6:wt.heap.size≤w6.heap.size:=hg6.size;have f6:w6.cell? ⟨w.heap.size+1,1,none⟩=some (.slice (some ⟨b3,o3,none⟩) args.length fc):=by rw[cell_of_row _ _ _ _ _ _ hR6];rfl
      have d6:w6.cell? ⟨b3,o3+j,none⟩=some (.string x):=by rw[hB6.cell (p:=⟨b3,o3+j,none⟩) hb3,←HBn.out.cell (p:=⟨b3,o3+j,none⟩) hb3];exact d3
      have HB':=au hB6;have HR':=au hR6;have HLk:=au hlk;have HUp:=au hup;rw[hwt] at HLk HUp;have LX:w.heap.size+3<w6.heap.size:=by omega
      clear hstep hw hg hEt hBt hRt hwt hLt HEn HM HTl HXl hlk hup hE6 hg6 hB6 hR6 hs6 hst;generalize bs t2=tk at*
      go_wp2_with (first
       |(at_lookup;refine bM _ rfl _ _ _ _ rfl _ _ _ rfl rfl HLk.out ?_)
       |(at_mapUpdate;refine aH _ rfl _ _ _ _ rfl _ _ _ _ rfl rfl rfl HUp.out ?_))
      go_roundg (args.length- (j+1))
      case measure=>omega
      case rel=>exact⟨j+1,by omega,by go_num,_,HE',HM',HB',HR',LX⟩
    have hj':j=args.length:=by omega
    subst hj';have hm:=HM.out;rw[JC.out] at hm;have HR:Hid (res=some lj):=hm;have HE':=au (HEn.out.mono (m:=n+q) (by omega));clear hm HM HEn;go_wp2;go_ret;refine⟨?_,HBn.out⟩;rw[HR.out];exact⟨_,rfl,by omega,HE'.out⟩
   intro x c kl yd yp w4 LY hkey hlk hv hat LZ L6 hg4 hs4 hen;obtain⟨x',ex,rfl,_⟩:=Maps.keyOf_str Tryz.underlying9 hkey;obtain rfl:x=x':=encStr_inj ex;clear ex;have JD:=hout.kept hg4 (by simp)
   go_wp2_with (first
    |(at_mapUpdate;refine wpList_mapUpdate_own _ rfl _ _ _ 76 rfl 9 9 hKs Tryz.underlying76 _ (w.heap.size+2) _ _ rfl JD (by unfold maxLen;omega) _ _ _ rfl rfl hkey _ _ hv ?_;intro w5 JE hg5;go_frame)
    |go_in)
   have KL:=LZ.kept hg5 (fun e=>by have:=Option.some.inj e;omega) (fun e=>by have:=Option.some.inj e;omega)
   go_roundw
   case rel=>
    refine⟨_,LY,_,KL,by omega,JE.mono (by omega),agree_step hA hout.isMap trivial hat,
     (hnx.grown hg4 hnx.size (fun j hj=>by cases hj;omega)).grown hg5 (by have:=hnx.size;omega) (fun j hj=>by cases hj;omega),?_,?_,by have:=hg5.size;omega⟩
    ·rw[hg5.block _ (by omega) (fun e=>by have:=Option.some.inj e;omega),hg4.block _ (by omega) (fun e=>by have:=Option.some.inj e;omega)];exact hr0
    rw[hg5.block _ (by omega) (fun e=>by have:=Option.some.inj e;omega),hg4.block _ (by omega) (fun e=>by have:=Option.some.inj e;omega)];exact hr1
   case measure=>rw[KL.left_eq,hrg.left_eq];exact L6
  have HM:Hid (fA ⟨no,name,ts⟩ (fn,args) l=none):=by show _=_;unfold fA;rw[if_neg (fun h=>hlen h.2)]
  generalize fA ⟨no,name,ts⟩ (fn,args) l=res at*;clear hnm;subst hname;have hne:((ts.length:Int) != (args.length:Int))=true:=by
   have:¬(ts.length:Int)=(args.length:Int):=by omega
   simpa using this
  clear hlen HE HTS HFS HT HSF
  go_enter Tryz.func43,Tryz.ntmps43
  go_wp2;go_ret;refine⟨?_,((by repeat (first|exact aj.refl _|assumption|refine aj.drewN ?_ _|refine aj.drew ?_|refine aj.alloc ?_ _|refine aj.grow ?_ _)):aj _ _).below⟩;rw[HM.out];exact rfl
 have HM:Hid (fA ⟨no,name,ts⟩ (fn,args) l=none):=by show _=_;unfold fA;rw[if_neg (fun h=>hname (by rw[hnm];exact h.1))]
 generalize fA ⟨no,name,ts⟩ (fn,args) l=res at*;clear hnm;have hne:(nm.toList==fn.toList)=false:=by rw[jW];simp[hname]
 clear hname HE HTS HFS HT HSF
 go_enter Tryz.func43,Tryz.ntmps43
 go_wp2;go_ret;refine⟨?_,((by repeat (first|exact aj.refl _|assumption|refine aj.drewN ?_ _|refine aj.drew ?_|refine aj.alloc ?_ _|refine aj.grow ?_ _)):aj _ _).below⟩;rw[HM.out];exact rfl
theorem Hu (a:aJ) (tv:Value) (l:List aI) (b n:Nat) (w:World) (ht:gJ.sl bT w tv a.terms) (he:kI w b n l) (hts:∀t∈a.terms,t.2.length≤maxLen):
  Calls Tryz.prog 44 #[.agg #[.bool a.no,.string (bs a.name),tv],.map (some b)] w fun e w'=>∃v,e=.returned (.tuple #[v,.bool (bf a l).isSome])∧dh w' v (filled a l)∧aj w w'∧∀f,bf a l=some f→∃s,v=.agg #[.string f.1,s]∧bsK.own 9 (w.heap.size+3) w' s f.2:=by
 obtain⟨sa,cap,rfl⟩:=aB.slice ht;have HT:=au ht;have HE:=au he;have HTS:=au hts;have hn:=ht.1.1;clear ht he hts;obtain⟨no,name,ts⟩:=a;dsimp only at*;have F:Hid (∀r,aT l ts=r→bf ⟨no,name,ts⟩ l=r.map fun x=>(bs name,x)):=fun r h=>by unfold bf;rw[h];cases r <;> rfl
 unfold filled;generalize hfb:bf ⟨no,name,ts⟩ l=fb at*;clear hfb;generalize bs name=nm at*
 go_enter Tryz.func44,Tryz.ntmps44
 go_wp2
 go_loopg [17] ts.length (fun g i wr=>∃j:Nat,j+g=ts.length∧i=.int .i64 j∧∃r o,Hid (aT l (ts.take j)=some r)∧Hid (bsK.own 9 (w.heap.size+3) wr o r)∧Hid (r.length=j)∧Hid (aj w wr)∧w.heap.size+3≤wr.heap.size∧
  Hid (wr.heap[w.heap.size+1]?=some (.cells #[.string {data:=#[]},.slice none 0 0] 50 (0,0)))∧Hid (wr.heap[w.heap.size+2]?=some (.cells #[.string nm,o] 50 (0,0))))
 case atStart=>
  refine⟨0,by omega,rfl,[],.slice none 0 0,(rfl:_=_),bsK.gX _ _ _,(rfl:_=_),((by repeat (first|exact aj.refl _|assumption|refine aj.drewN ?_ _|refine aj.drew ?_|refine aj.alloc ?_ _|refine aj.grow ?_ _)):aj _ _),by simp,?_,?_⟩
  all_goals
   show _=_;simp only[fT,World.size_alloc]
   repeat (first|rw[if_pos trivial]|rw[if_pos (by omega)]|rw[if_neg (by omega)])
 obtain⟨j,hj,rfl,r,o,HR,HO,hrl,HL,hsz,H2,H3⟩:=hrel;obtain⟨ao,co,rfl⟩:=aB.bI HO.out
 by_cases hlt:j<ts.length
 ·obtain⟨x,hx⟩:∃x,ts[j]?=some x:=⟨_,List.getElem?_eq_getElem hlt⟩;obtain⟨b1,o1,_,rfl,hb1,rfl,hc⟩:=aB.bR HT.out hx;have d0:wr.cell? ⟨b1,o1+j*2,none⟩=some (.bool x.1):=by rw[HL.out.cell hb1];exact hc 0 _ rfl
  have d1:wr.cell? ⟨b1,o1+j*2+1,none⟩=some (.string (bs x.2)):=by rw[HL.out.cell hb1];exact hc 1 _ rfl
  have hbr:b1<wr.heap.size:=by have:=HL.out.size;omega
  have HS:=au (l7 hx HR.out);have hxl:=HTS.out x (List.mem_of_getElem? hx);obtain⟨wt,hwt⟩:∃wt,wt=wr.alloc (.cells #[.bool x.1,.string (bs x.2)] 98):=⟨_,rfl⟩;have hLt:aj w wt:=by rw[hwt];exact HL.out.alloc _
  have hst:wt.heap.size=wr.heap.size+1:=by rw[hwt];simp
  have hbl:∀k,k<wr.heap.size→wt.heap[k]?=wr.heap[k]?:=fun k hk=>by rw[hwt];exact Below.heap_alloc _ _ _ hk
  have hlk:=(HE.out.later hLt).look (s:=x.2) hxl;have HWT:=au hwt;clear hc hx;obtain⟨x1,x2⟩:=x;dsimp only at*;have hww:bH l (x1,x2)=if x1 then fu l (bs x2) else some (bs x2):=rfl;cases hw:bH l (x1,x2) with
  |none=>
   rw[hw] at HS;have HF:Hid (fb=none):=F.out none (l9 HS.out);have hx1:x1=true:=by cases x1 with|true=>rfl|false=>rw[hw] at hww;simp at hww
   subst hx1;rw[hw] at hww;simp only[if_true] at hww;rw[←hww] at hlk;dsimp only[Option.getD_none,Option.isSome_none] at hlk;have Z2:=au ((hbl _ (by omega)).trans H2.out);have HL2:=au hLt;have HLk:=au hlk;rw[HWT.out] at Z2 HL2 HLk;obtain⟨q0,q1,p0,p1,q2⟩:=nQ Z2.out;clear hw hww HS hlk hLt hbl hwt HWT hst hxl;generalize bs x2=kx at*
   go_wp2_with (at_lookup;refine bM _ rfl _ _ _ _ rfl _ _ _ rfl rfl HLk.out ?_)
   obtain⟨r0,r1⟩:=pq Z2.out (.string {data:=#[]}) (.slice none 0 0);refine bodyPost_ret (v:=.tuple #[.agg #[.string {data:=#[]},.slice none 0 0],.bool false]) (by simp[results,Tryz.results44,go_sem,r0,r1]) rfl ⟨_,by rw[HF.out];rfl,?_,?_,fun f hf=>by rw[HF.out] at hf;cases hf⟩
   ·rw[HF.out];exact⟨_,rfl,by simp[aA],none,0,rfl,fun h=>absurd rfl h⟩
   exact(HL2.out.setCell (by show w.heap.size≤w.heap.size+1;omega) _).setCell (by show w.heap.size≤w.heap.size+1;omega) _
  |some s=>
   rw[hw] at HS;have HS1:Hid (aT l (ts.take (j+1))=some (r++[s])):=HS.out;obtain⟨q0,q1,p0,p1,q2⟩:=nQ ((hbl _ (by omega)).trans H3.out);obtain⟨v',w4,hrun,hO4,hg4,hd4,hv4⟩:=vH (aB.fQ HO.out (by omega:wr.heap.size≤wt.heap.size) fun k hk _=>hbl k hk) s (by have:=hrl.out;omega) (by omega);have hlo:∀k,(Value.slice ao r.length co).ownBlock=some k→w.heap.size+3≤k:=fun k e=>(aB.dV HO.out e).1;have hb4:∀k,k<w.heap.size+3→w4.heap[k]?=wr.heap[k]?:=fun k hk=>by rw[hg4.block k (by simp;omega) (fun e=>by have:=hlo k e.symm;omega),Below.heap_alloc _ _ _ (by omega)];exact hbl k (by omega)
   have hs4:wt.heap.size<w4.heap.size:=by have:=hg4.size;simp at this;omega
   have HL4:=au (hLt.more hg4 hd4 fun k e=>by have:=hlo k e;omega);have Z3:=au ((hb4 _ (by omega)).trans H3.out);obtain⟨_,y1,_,t1,y2⟩:=nQ Z3.out;have Z2:=au ((hb4 _ (by omega)).trans H2.out);obtain⟨a4,n4,c4,rfl⟩:∃a n c,v'=.slice a n c:=by obtain⟨a,c,e⟩:=aB.bI hO4;exact⟨a,_,c,e⟩
   have HR4:=au hrun;have HO4:=au hO4;have HLk:=au hlk;rw[HWT.out] at q0 q1 p0 p1 q2 HR4 HLk;simp only[World.size_alloc] at HR4;cases x1
   ·have hs:s=bs x2:=by rw[hw] at hww;simpa using hww
    subst hs;clear hw hww HS hlk HLk hLt hbl hwt hrun hO4 hg4 hd4 hv4 hb4 hst hxl HWT;generalize bs x2=kx at*
    go_wp2_with (at_builtin;refine wpList_append_run rfl (.tmp 36) (.tmp 38) 48 rfl _ _ _ _ rfl rfl HR4.out ?_)
    go_roundg (ts.length- (j+1))
    case measure=>omega
    case rel=>
     refine⟨j+1,by omega,by go_num,r++[kx],.slice a4 n4 c4,HS1,?_,(by simp[hrl.out]:(r++[kx]).length=j+1),?_,?_,?_,?_⟩;·exact aB.fQ HO4.out (by simp[World.setCell]) fun k _ hk=>Below.heap_setCell _ _ _ _ (by show k≠w.heap.size+2;omega)
     ·exact(aj.setCell HL4.out (p:=⟨w.heap.size+1+1,1,none⟩) (by show w.heap.size≤w.heap.size+2;omega) _:aj _ _)
     ·simp[World.setCell];omega
     ·show _=_;rw[Below.heap_setCell _ _ _ _ (by show w.heap.size+1≠w.heap.size+2;omega)];exact Z2.out
     show _=_;rw[dW Z3.out];rfl
   have hs:fu l (bs x2)=some s:=by rw[hw] at hww;simpa using hww.symm
   rw[hs] at HLk;dsimp only[Option.getD_some,Option.isSome_some] at HLk;clear hs hw hww HS hlk hLt hbl hwt hrun hO4 hg4 hd4 hv4 hb4 hst hxl HWT;generalize bs x2=kx at*
   go_wp2_with (first
    |(at_lookup;refine bM _ rfl _ _ _ _ rfl _ _ _ rfl rfl HLk.out ?_)
    |(at_builtin;refine wpList_append_run rfl (.tmp 36) (.tmp 38) 48 rfl _ _ _ _ rfl rfl HR4.out ?_))
   go_roundg (ts.length- (j+1))
   case measure=>omega
   case rel=>
    refine⟨j+1,by omega,by go_num,r++[s],.slice a4 n4 c4,HS1,?_,(by simp[hrl.out]:(r++[s]).length=j+1),?_,?_,?_,?_⟩;·exact aB.fQ HO4.out (by simp[World.setCell]) fun k _ hk=>Below.heap_setCell _ _ _ _ (by show k≠w.heap.size+2;omega)
    ·exact(aj.setCell HL4.out (p:=⟨w.heap.size+1+1,1,none⟩) (by show w.heap.size≤w.heap.size+2;omega) _:aj _ _)
    ·simp[World.setCell];omega
    ·show _=_;rw[Below.heap_setCell _ _ _ _ (by show w.heap.size+1≠w.heap.size+2;omega)];exact Z2.out
    show _=_;rw[dW Z3.out];rfl
 have e:j=ts.length:=by omega
 subst e;have HR1:Hid (fb=some (nm,r)):=by have:=HR.out;rw[List.take_length] at this;exact F.out _ this
 obtain⟨q0,q1,p0,p1,q2⟩:=nQ H2.out;obtain⟨y0,y1,t0,t1,y2⟩:=nQ H3.out;go_wp2;obtain⟨r0,r1⟩:=pq (R:=w.heap.size+1) H2.out (.string nm) (.slice ao r.length co);refine bodyPost_ret (v:=.tuple #[.agg #[.string nm,.slice ao r.length co],.bool true]) (by simp[results,Tryz.results44,go_sem,r0,r1]) rfl ⟨_,by rw[HR1.out];rfl,?_,?_,fun f hf=>?_⟩
 ·rw[HR1.out];refine rA HO.out (by have:=hrl.out;omega) (fun k hk=>?_) (by simp[World.setCell]);rw[Below.heap_setCell _ _ _ _ (by show k≠w.heap.size+1;omega),Below.heap_setCell _ _ _ _ (by show k≠w.heap.size+1;omega)]
 ·exact(HL.out.setCell (by show w.heap.size≤w.heap.size+1;omega) _).setCell (by show w.heap.size≤w.heap.size+1;omega) _
 rw[HR1.out] at hf;cases hf;refine⟨_,rfl,aB.fQ HO.out (by simp[World.setCell]) fun k _ hk=>?_⟩;rw[Below.heap_setCell _ _ _ _ (by show k≠w.heap.size+1;omega),Below.heap_setCell _ _ _ _ (by show k≠w.heap.size+1;omega)]
theorem Ey (a:aJ) (tv:Value) (l:List aI) (b n:Nat) (w:World) (ht:gJ.sl bT w tv a.terms) (he:kI w b n l) (hts:∀t∈a.terms,t.2.length≤maxLen):
  Calls Tryz.prog 44 #[.agg #[.bool a.no,.string (bs a.name),tv],.map (some b)] w fun e w'=>∃v,e=.returned (.tuple #[v,.bool (bf a l).isSome])∧dh w' v (filled a l)∧aj w w':=
 (Hu a tv l b n w ht he hts).mono fun _ _ ⟨v,h1,h2,h3,_⟩=>⟨v,h1,h2,h3⟩
def mM (n:Nat):aB (List aI) where
 size:=1
 is:=fun B w c l=>∃b,c=[.map (some b)]∧B b∧kI w b n l
 len:=fun⟨b,h,_,_⟩=>by subst h;rfl
 one:=fun⟨b,h,_,_⟩ u hu=>by subst h;simp at hu;subst hu;rfl
 kept:=fun⟨b,h,hB,he⟩ _ h2=>⟨b,h,hB,he.block (h2 b he.lt hB)⟩
 mono:=fun⟨b,h,hB,he⟩ h1=>⟨b,h,h1 b he.lt hB,he⟩
theorem vT {n m:Nat} {B:Nat→Prop} {w:World} {v:Value} {L:List (List aI)} (h:(mM n).sl B w v L) (hn:n≤m):(mM m).sl B w v L:=by obtain⟨h0,a,cap,e,h1⟩:=h;refine⟨h0,a,cap,e,fun hl=>?_⟩;obtain⟨b,off,ea,hB,hb,hc⟩:=h1 hl;refine⟨b,off,ea,hB,hb,fun i x hx=>?_⟩;obtain⟨c,⟨b',hc1,hB',he⟩,hc2⟩:=hc i x hx;exact⟨c,⟨b',hc1,hB',he.mono hn⟩,hc2⟩
theorem FC:∃i,Tryz.prog.info? 76=some i∧i.zero=some (.map none)∧i.size=1∧i.bytes=8:=⟨Tryz.t76,by kernel_rfl,by kernel_rfl,by kernel_rfl,by kernel_rfl⟩
theorem vU {α:Type} {K:aB α} {ty:TypeId} {lo:Nat} {w:World} {v:Value} {l:List α} (h:K.own ty lo w v l) {k:Nat} (hk:v.ownBlock=some k):∃cs,w.heap[k]?=some (.cells cs ty (0,0)):=by
 obtain⟨xs,ho,_⟩:=h;rcases ho.2 with⟨rfl,_⟩|⟨g,cap,cur,rfl,_,hg,_⟩;·simp[Value.ownBlock] at hk
 simp only[Value.ownBlock,Option.some.injEq] at hk;subst hk;exact⟨cur,hg⟩
theorem xH {α:Type} {K:aB α} {ty:TypeId} {lo:Nat} {w:World} {v:Value} {l:List α} (h:K.own ty lo w v l) {b n:Nat} {e:List aI} (he:kI w b n e):v.ownBlock≠some b:=fun hk=>by obtain⟨cs,h1⟩:=vU h hk;obtain⟨es,c,h2⟩:=he.isMap;rw[h1] at h2;cases h2
theorem vV {n lo:Nat} {w:World} {v:Value} {L:List (List aI)} (h:(mM n).own 76 lo w v L) {b:Nat} {l:List aI} (he:kI w b n l) (hb:lo≤b) (hl:L.length+1≤10000000) (hlo:lo≤w.heap.size):
  ∃v' w',(Builtin.append_ #[58,58] 58 #[v,.slice (some ⟨w.heap.size,0,none⟩) 1 1]).run Tryz.prog (w.alloc (.cells #[.map (some b)] 76))=.ok v' w'∧(mM n).own 76 lo w' v' (L++[l])∧(w.alloc (.cells #[.map (some b)] 76)).grownBy w' v.ownBlock∧w.drawn≤w'.drawn∧
   ∀k,v'.ownBlock=some k→v.ownBlock=some k∨w.heap.size<k:=by
 obtain⟨i,i1,i2,i3,i4⟩:=FC;exact aB.tC h Tryz.underlying58 i1 i2 i3 i4 rfl (Nat.one_pos) (c:=[.map (some b)]) ⟨b,rfl,⟨hb,xH h he⟩,he⟩ (by omega) (by simp[maxLen];omega) hlo
theorem JF (B:Nat) (i at_:Int) (fa oa:Option Addr) (fn fc on oc:Nat) (w:World) (h0:w.cell? ⟨B,0,none⟩=some (.slice fa fn fc)) (h1:w.cell? ⟨B+1,0,none⟩=some (.int .i64 at_)) (h2:w.cell? ⟨B+2,0,none⟩=some (.slice oa on oc)):
  Calls Tryz.prog 42 #[.int .i64 i,.pointer (some ⟨B+1,0,none⟩),.pointer (some ⟨B+2,0,none⟩),.pointer (some ⟨B,0,none⟩)] w fun e w'=>e=.returned (if i=at_ then .slice oa on oc else .slice fa fn fc)∧w'=w:=by
 by_cases h:i=at_
 ·subst h;have hq:(i==i)=true:=by simp
  go_enter Tryz.func42,Tryz.ntmps42
  go_wp2;go_ret;exact⟨by simp,rfl⟩
 have hq:(i==at_)=false:=by simpa using h
 go_enter Tryz.func42,Tryz.ntmps42
 go_wp2;go_ret;exact⟨rfl,rfl⟩
theorem zR {pick:Nat→List aF} {body:List aJ} {j:Nat} {a:aJ} {ms:List (List aI)} (h:body[j]?=some a):
  eu pick j (body.drop j) ms=if a.no then eu pick (j+1) (body.drop (j+1)) ms else if 20000<(aQ a (pick j) ms).length then none else eu pick (j+1) (body.drop (j+1)) (aQ a (pick j) ms):=by
 have h1:body.drop j=a::body.drop (j+1):=by obtain⟨h,e⟩:=List.getElem?_eq_some_iff.1 h;rw[List.drop_eq_getElem_cons h,e]
 rw[h1]
 rfl
theorem vW {a:aJ} {fs:List aF} {ms:List (List aI)} {p:Nat} {l:List aI} (h:ms[p]?=some l):aQ a fs (ms.take (p+1))=aQ a fs (ms.take p)++fs.filterMap fun f=>fA a f l:=by rw[List.take_add_one,h];unfold aQ;rw[List.flatMap_append];simp
theorem kV {α β:Type} {g:α→Option β} {fs:List α} {q:Nat} {x:α} (h:fs[q]?=some x):(fs.take (q+1)).filterMap g=(fs.take q).filterMap g++(g x).toList:=by rw[List.take_add_one,h,List.filterMap_append];simp only[Option.toList_some,List.filterMap_cons,List.filterMap_nil];cases g x <;> rfl
theorem lC {a:aJ} {fs:List aF} (hf:fs.length≤200):∀(ms:List (List aI)),(aQ a fs ms).length≤200*ms.length
 |[]=>by simp[aQ]
 |l::ms=>by have h1:=lC (a:=a) hf ms;have h2:(fs.filterMap fun f=>fA a f l).length≤fs.length:=List.length_filterMap_le _ _;unfold aQ at*;rw[List.flatMap_cons,List.length_append,List.length_cons];omega
theorem pI {pick:Nat→List aF} {l:List aI}:∀(ats:List aJ) (n i:Nat) {a:aJ},ats[i]?=some a→
  barredB pick n (ats.take (i+1)) l=(barredB pick n (ats.take i) l||(a.no&&(match bf a l with|some f=>inB (pick (n+i)) f|none=>false)))
 |[],_,_,_,h=>by simp at h
 |x::ats,n,0,a,h=>by
  simp at h;subst h;simp only[List.take_succ_cons,List.take_zero,barredB,Bool.or_false,Bool.false_or,Nat.add_zero]
  rfl
 |x::ats,n,i+1,a,h=>by have:=pI (pick:=pick) (l:=l) ats (n+1) i (a:=a) (by simpa using h);rw[List.take_succ_cons,List.take_succ_cons];simp only[barredB];rw[this,Bool.or_assoc,show n+1+i=n+(i+1) by omega]
end Go.Proofs.YthngiikhgplldaaGreatDoor
