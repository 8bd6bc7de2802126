import Derived.Maps.StringElems
import Derived.Maps.Ext
import Derived.Maps.RangeWalk
import Derived.Test.YtafmbokfkbccaaaGreatDoorJT11
import Derived.Test.YtafmbokfkbccaaaGreatDoorJT4
import Derived.Test.YtafmbokfkbccaaaGreatDoorJT3
import Derived.Test.YtafmbokfkbccaaaGreatDoorJT6
import Derived.Sort.KeysCollected
import Derived.Test.YtafmbokfkbccaaaGreatDoorJT14
import Derived.Test.YtafmbokfkbccaaaGreatDoorJT7
namespace Go.Proofs.YtafmbokfkbccaaaGreatDoor
open Go.RowKit Go.Sort Go.Maps
def jW (w:World) (b n:Nat) (l:List aB):Prop:=
 ∃D:DataW Unit,w.ownsMap Tryz.prog 9 (plainElem Tryz.prog 9) b n D∧∀s:Bs,Maps.has D (.string s)=(dG l (bs s)).isSome∧∀t,dG l (bs s)=some t→∀z,D.atKey (.string s) z=.lit (.string (raw t))
theorem jW.made (w:World):jW (w.alloc (.map #[] 0)) w.heap.size 0 []:=⟨.map [],World.ownsMap_made _ _ _ _,fun _=>⟨rfl,fun t h=>by cases h⟩⟩
theorem jW.lt {w:World} {b n:Nat} {l:List aB} (h:jW w b n l):b<w.heap.size:=by obtain⟨D,h,_⟩:=h;exact h.lt
theorem jW.block {w w':World} {b n:Nat} {l:List aB} (h:jW w b n l) (e:w'.heap[b]?=w.heap[b]?):jW w' b n l:=by obtain⟨D,h,hf⟩:=h;exact⟨D,dP h e,hf⟩
theorem jW.later {w w':World} {b n:Nat} {l:List aB} (h:jW w b n l) (k:Later w w'):jW w' b n l:=h.block (k.block h.lt)
theorem jW.below {w w':World} {b n:Nat} {l:List aB} (h:jW w b n l) (k:Below w.heap.size w w'):jW w' b n l:=h.block (k.block b h.lt)
theorem jW.mono {w:World} {b n m:Nat} {l:List aB} (h:jW w b n l) (hn:n≤m):jW w b m l:=by obtain⟨D,h,hf⟩:=h;exact⟨D,h.mono hn,hf⟩
theorem jW.isMap {w:World} {b n:Nat} {l:List aB} (h:jW w b n l):∃es c,w.heap[b]?=some (.map es c):=by
 obtain⟨D,⟨es,c,hb,_⟩,_⟩:=h;exact⟨es,c,hb⟩
theorem LU (w:World):(zeroValue 9).run Tryz.prog w=.ok (.string ByteArray.empty) w:=by kernel_rfl
set_option maxRecDepth 100000 in
theorem jW.look {w:World} {b n:Nat} {l:List aB} (h:jW w b n l) {s:Bs} (hs:s.length≤maxLen):(Instr.lookup 173 (.map (some b)) (.string (bs s)) true).run Tryz.prog w=.ok (.tuple #[.string ((dG l (bs s)).getD ByteArray.empty),.bool (dG l (bs s)).isSome]) w:=by
 obtain⟨D,hown,hf⟩:=h;obtain⟨h1,h2⟩:=hf s;obtain⟨v,ps,hrun,hv⟩:=hown.look_ok (string_keyed Tryz.underlying9) Tryz.underlying173 (LU w) (plainElem_string Tryz.underlying9 (by simp)) (lQ Tryz.underlying9 hs);obtain⟨t,rfl,hz,_⟩:=plainElem_string_inv Tryz.underlying9 hv;simp only[Prod.mk.injEq] at hz;rw[hrun,h1];cases hg:dG l (bs s) with
 |none=>
  rw[hg] at h1;have h3:=Maps.atKey_of_not_has (D:=D) (k:=.string s) h1 (.lit (.string (ByteArray.empty).data.toList));rw[h3] at hz;have hz:=hz.1
  injection hz with hz
  injection hz with hz
  have:t=ByteArray.empty:=by apply qz;exact hz.symm
  rw[this];rfl
 |some x=>
  rw[h2 x hg] at hz;have hz:=hz.1
  injection hz with hz
  injection hz with hz
  have:t=x:=by apply qz;exact hz.symm
  rw[this];rfl
set_option maxRecDepth 100000 in
theorem jW.store {w:World} {b n:Nat} {l:List aB} (h:jW w b n l) (hn:n<maxLen) {s:Bs} (hs:s.length≤maxLen) (hg:dG l (bs s)=none) {x:ByteArray} (hx:x.size≤maxLen):
  ∃w',(Instr.mapUpdate 173 (.map (some b)) (.string (bs s)) (.string x)).run Tryz.prog w=.ok () w'∧jW w' b (n+1) (l++[(bs s,x)])∧w.grownBy w' (some b):=by
 obtain⟨D,hown,hf⟩:=h;obtain⟨w',hrun,r1,r2⟩:=hown.update (string_keyed Tryz.underlying9) Tryz.underlying173 hn (lQ Tryz.underlying9 hs) (plainElem_string Tryz.underlying9 hx);refine⟨w',hrun,⟨_,r1,fun t=> ?_⟩,r2⟩;have e1:dG (l++[(bs s,x)]) (bs t)=if t=s then some x else dG l (bs t):=by
  rw[fG]
  by_cases e:t=s
  ·subst e;rw[hg,if_pos rfl];simp[dG]
  ·rw[if_neg e];cases dG l (bs t) with
   |some y=>rfl
   |none=>
    have:bs s≠bs t:=fun h=>e (nD h).symm;simp[dG,this]
 rw[e1]
 by_cases e:t=s
 ·subst e;rw[if_pos rfl];exact⟨by rw[has_put_same hown.isMap (Iu _)];rfl,fun y hy z=>by cases hy;rw[atKey_put_same hown.isMap (Iu _)];rfl⟩
 ·rw[if_neg e];exact⟨by rw[has_put_other (nI e),(hf t).1],fun y hy z=>by rw[atKey_put_other (nI e)];exact(hf t).2 y hy z⟩
end Go.Proofs.YtafmbokfkbccaaaGreatDoor
namespace Go.Proofs.YtafmbokfkbccaaaGreatDoor
open Go.RowKit Go.Sort Go.Maps
def Uw (w:World) (lo n:Nat) (e:Ending):Option (List aB)→Prop
 |none=>e=.returned (.map none)
 |some l=>∃b,e=.returned (.map (some b))∧lo≤b∧jW w b n l
theorem FY {l:List aB} {ts:List dN} {xs:List ByteArray} {j:Nat} {t:dN} {x:ByteArray} (ht:ts[j]?=some t) (hx:xs[j]?=some x):
  dK l (ts.drop j) (xs.drop j)=match bF l t with
   |none=>dK (l++[(bs t.2,x)]) (ts.drop (j+1)) (xs.drop (j+1))
   |some s=>if s=x then dK l (ts.drop (j+1)) (xs.drop (j+1)) else none:=by
 have h1:ts.drop j=t::ts.drop (j+1):=by
  obtain⟨h,e⟩:=List.getElem?_eq_some_iff.1 ht;rw[List.drop_eq_getElem_cons h,e]
 have h2:xs.drop j=x::xs.drop (j+1):=by
  obtain⟨h,e⟩:=List.getElem?_eq_some_iff.1 hx;rw[List.drop_eq_getElem_cons h,e]
 rw[h1,h2]
 rfl
set_option maxRecDepth 100000 in
set_option maxHeartbeats 4000000 in
theorem SC (a:aI) (f:au) (l:List aB) (b n q:Nat) (tv fv:Value) (w:World) (ht:eH.sl bg w tv a.terms) (hf:dH w fv f) (he:jW w b n l) (h4:a.terms.length≤q) (hn:n+q≤10000000) (hts:∀t∈a.terms,t.2.length≤maxLen) (hfs:∀s∈f.2,s.size≤maxLen):
  Calls Tryz.prog 100 #[.agg #[.bool a.no,.string (bs a.name),tv],fv,.map (some b)] w fun e w'=>Uw w' w.heap.size (n+q) e (dw a f l)∧Below w.heap.size w w':=by
 obtain⟨sf,rfl,hsf⟩:=hf;obtain⟨ta,tc,rfl⟩:=Kind.slice ht;obtain⟨fa,fc,rfl⟩:=bB hsf;obtain⟨no,name,ts⟩:=a;obtain⟨fn,args⟩:=f;dsimp only at*;have WG:=hsf.1;have HT:=hide ht;have HSF:=hide hsf;have HE:=hide he;have HTS:=hide hts;have HFS:=hide hfs;clear ht hsf he hts hfs;obtain⟨nm,hnm⟩:∃nm,nm=bs name:=⟨_,rfl⟩;rw[←hnm]
 by_cases hname:nm=fn
 ·by_cases hlen:ts.length=args.length
  ·have HM:Hid (dw ⟨no,name,ts⟩ (fn,args) l=dK l (ts.drop 0) (args.drop 0)):=by
    show _=_;unfold dw;rw[if_pos ⟨by rw[←hnm];exact hname,hlen⟩]
    rfl
   generalize dw ⟨no,name,ts⟩ (fn,args) l=res at*;clear hnm;subst hname;have hmm:= @run_makeMap Tryz.prog;obtain⟨D0,hown,hD0⟩:=HE.out;have hsz0:=hown.size_le;have hbl:=hown.lt;obtain⟨w2,hw2⟩:∃w2,w2=(w.alloc (.cells #[.bool no,.string nm,.slice ta ts.length tc] 85)).alloc (.cells #[.string nm,.slice fa args.length fc] 27):=⟨_,rfl⟩;have hL2:Later w w2:=by rw[hw2];exact((Later.refl w).alloc _).alloc _
   have hs2:w2.heap.size=w.heap.size+2:=by rw[hw2];simp
   have hown2:(w2.alloc (.map #[] 0)).ownsMap Tryz.prog 9 (plainElem Tryz.prog 9) b n D0:=(dP hown (hL2.block hbl)).alloc _;have hR0:(w2.alloc (.map #[] 0)).heap[w.heap.size]?=some (.cells #[.bool no,.string nm,.slice ta ts.length tc] 85 (0,0)):=by
    rw[hw2];simp only[bY,World.size_alloc]
    repeat (first|rw[if_pos trivial]|rw[if_pos (by omega)]|rw[if_neg (by omega)])
   have hR1:(w2.alloc (.map #[] 0)).heap[w.heap.size+1]?=some (.cells #[.string nm,.slice fa args.length fc] 27 (0,0)):=by
    rw[hw2];simp only[bY,World.size_alloc]
    repeat (first|rw[if_pos trivial]|rw[if_pos (by omega)]|rw[if_neg (by omega)])
   have hMd:(w2.alloc (.map #[] 0)).ownsMap Tryz.prog 9 (plainElem Tryz.prog 9) (w.heap.size+2) 0 (.map []:DataW Unit):=by rw[←hs2];exact World.ownsMap_made _ _ _ _
   have hL3:Later w (w2.alloc (.map #[] 0)):=hL2.alloc _;have e1:(w2.alloc (.map #[] 0)).heap.size=w.heap.size+3:=by simp[hs2]
   obtain⟨w3,hw3⟩:∃w3,w3=w2.alloc (.map #[] 0):=⟨_,rfl⟩;rw[←hw3] at hown2 hR0 hR1 hMd hL3 e1;rw[hw2] at hw3;have Y5:Hid (∀j,j<args.length→∃t,ts[j]?=some t):=fun j hj=>⟨_,List.getElem?_eq_getElem (by omega)⟩;have h4a:args.length≤q:=by omega
   have Ux:Hid (ts.drop args.length=[]):=List.drop_eq_nil_of_le (by omega);rw[hlen] at*;have HW3:=hide hw3;have HL3:=hide hL3.below;have PN:=hide hown;have Q9:=hide hown2;have HMd:=hide hMd;have HD0:=hide hD0;have HR0:=hide hR0;have HR1:=hide hR1;clear hw2 hL2 hown hown2 hD0 hR0 hR1 hMd hL3 hw3 hs2;have hKs:=string_keyed (P:=Tryz.prog) Tryz.underlying9
   go_enter Tryz.func100,Tryz.ntmps100
   go_wp2_with (first
    |(at_range;rw[←HW3.out];refine wpList_range_own _ rfl _ 173 rfl 9 9 hKs Tryz.underlying173 _ b n _ rfl Q9.out ?_;intro w0 hrg0 hg0 hs0)
    |go_in)
   try go_frame
   rw[e1] at hrg0 hs0
   go_loopw [32] (fun _ wr=>∃(left:Lit→Bool) (cnt:Nat) (Dout:DataW Unit),wr.ranges Tryz.prog 9 (plainElem Tryz.prog 9) b (w.heap.size+3) n D0 left cnt∧cnt≤Maps.size D0∧
     wr.ownsMap Tryz.prog 9 (plainElem Tryz.prog 9) (w.heap.size+2) (Maps.size D0-cnt) Dout∧Agree Dout D0 left∧Below w.heap.size w wr∧
     wr.heap[w.heap.size]?=some (.cells #[.bool no,.string nm,.slice ta args.length tc] 85 (0,0))∧wr.heap[w.heap.size+1]?=some (.cells #[.string nm,.slice fa args.length fc] 27 (0,0))∧w.heap.size+3<wr.heap.size)
    (fun _ wr=>wr.rangeLeft b (w.heap.size+3))
   case atStart=>
    refine⟨_,_,.map [],hrg0,Nat.le_refl _,(HMd.out.kept hg0 (by simp)).mono (Nat.zero_le _),agree_start D0,HL3.out.grown hg0 (by omega) (fun j hj=>by cases hj),?_,?_,by omega⟩
    ·rw[hg0.block _ (by omega) (by simp)];exact HR0.out
    ·rw[hg0.block _ (by omega) (by simp)];exact HR1.out
   case round=>
    clear hrg0 hg0 hs0;obtain⟨left,cnt,Dout,hrg,hcs,hout,hA,hnx,hr0,hr1,hsz⟩:=hrel
    go_wp2_with (first
     |(at_next;refine wpList_next_ranges _ rfl _ rfl 9 hKs (plainElem Tryz.prog 9) encStr Value.string (fun key kl hk=>by obtain⟨x,hx,_⟩:=Maps.keyOf_str Tryz.underlying9 hk;exact⟨x,hx⟩) (fun v y hv=>by obtain⟨c,rfl,_⟩:=plainElem_string_inv Tryz.underlying9 hv;exact⟨c,rfl⟩) b (w.heap.size+3) n _ _ _ rfl hrg ?_ ?_)
     |go_in)
    ·intro hc0 hl0;subst hc0;have e:=agree_end hA hl0 (hout.canon hKs) (PN.out.canon hKs);subst e;have HEn:Hid (jW wr (w.heap.size+2) (n+0) l):=⟨Dout,hout.mono (by omega),HD0.out⟩;have HBn:=hide hnx;have HR0:=hide hr0;have HR1:=hide hr1;have c2:wr.cell? ⟨w.heap.size,2,none⟩=some (.slice ta args.length tc):=by rw[cell_of_row _ _ _ _ _ _ hr0];rfl
     clear hrg hcs hout hA hnx hr0 hr1 PN Q9 HMd HD0 hsz0 HE hbl HL3 HW3 e1;have aad:((0:Nat):Int)≤(args.length:Int):=by omega
     go_wp2
     go_loopg [43] args.length (fun g i wr2=>∃j:Nat,j+g=args.length∧i=.int .i64 j∧∃lj,Hid (jW wr2 (w.heap.size+2) (n+j) lj)∧Hid (res=dK lj (ts.drop j) (args.drop j))∧Hid (Below w.heap.size w wr2)∧
      Hid (wr2.heap[w.heap.size+1]?=some (.cells #[.string nm,.slice fa args.length fc] 27 (0,0)))∧w.heap.size+3<wr2.heap.size)
     case atStart=>exact⟨0,by omega,rfl,l,HEn,HM,HBn,HR1,hsz⟩
     case round=>
      clear HEn HBn HR0 HR1 HM c2 hsz;rename_i wo;obtain⟨j,hj,rfl,lj,HEn,HM,HBn,HR1,hsz⟩:=hrel
      by_cases hlt:j<args.length
      ·obtain⟨t,htj⟩:=Y5.out j hlt;obtain⟨x,hxj⟩:∃x,args[j]?=some x:=⟨_,List.getElem?_eq_getElem hlt⟩;obtain⟨b1,o1,_,rfl,hb1,rfl,hc⟩:=Kind.bQ HT.out htj;obtain⟨_,a3,aae,ea,hc3⟩:=HSF.out
       injection ea with e1' e2' e3'
       subst e1';subst e3';obtain⟨b3,o3,rfl,hb3,hc3⟩:=hc3 (by intro e;rw[e] at hlt;simp at hlt);have d0:wr.cell? ⟨b1,o1+j*2,none⟩=some (.bool t.1):=by rw[HBn.out.cell (p:=⟨b1,o1+j*2,none⟩) hb1];exact hc 0 _ rfl
       have d1:wr.cell? ⟨b1,o1+j*2+1,none⟩=some (.string (bs t.2)):=by rw[HBn.out.cell (p:=⟨b1,o1+j*2+1,none⟩) hb1];exact hc 1 _ rfl
       have d3:wr.cell? ⟨b3,o3+j,none⟩=some (.string x):=by
        rw[HBn.out.cell (p:=⟨b3,o3+j,none⟩) hb3,hc3 j hlt,List.getD_eq_getElem?_getD,hxj];rfl
       have f1:wr.cell? ⟨w.heap.size+1,1,none⟩=some (.slice (some ⟨b3,o3,none⟩) args.length fc):=by rw[cell_of_row _ _ _ _ _ _ HR1.out];rfl
       have hstep:=FY (l:=lj) htj hxj;have HTl:=HTS.out t (List.mem_of_getElem? htj);have HXl:=HFS.out x (List.mem_of_getElem? hxj);have WH:b1<wr.heap.size:=by omega
       have Y6:b3<wr.heap.size:=by omega
       have aaf:w.heap.size+1<wr.heap.size:=by omega
       obtain⟨wt,hwt⟩:∃wt,wt=wr.alloc (.cells #[.bool t.1,.string (bs t.2)] 187):=⟨_,rfl⟩;have hLt:Later wr wt:=by rw[hwt];exact(Later.refl _).alloc _
       have hEt:=HEn.out.later hLt;have hBt:Below w.heap.size w wt:=aj HBn.out hLt.below HBn.out.size;have hRt:=(hLt.block (Array.getElem?_eq_some_iff.1 HR1.out).1).trans HR1.out;have hst:wt.heap.size=wr.heap.size+1:=by rw[hwt];simp
       clear hc hc3 htj hxj;obtain⟨t1,t2⟩:=t;dsimp only at*;cases t1
       ·have hw:bF lj (false,t2)=some (bs t2):=by simp[bF]
        rw[hw] at hstep;dsimp only at hstep
        by_cases hx:bs t2=x
        ·rw[if_pos hx,←HM.out] at hstep;have HM':=hide hstep;have HE':=hide (hEt.mono (Nat.le_succ _));have HB':=hide hBt;have HR':=hide hRt;rw[hwt] at HE' HB' HR';rw[←hx] at d3;clear hstep hw hx hEt hBt hRt hwt hLt HEn HM HTl HXl;generalize bs t2=tk at*;go_wp2
         go_roundg (args.length- (j+1))
         case measure=>omega
         case rel=>exact⟨j+1,by omega,by go_num,lj,HE',HM',HB',HR',by simp;omega⟩
        ·rw[if_neg hx,←HM.out] at hstep;have HB':=hide hBt;rw[hwt] at HB';have hne:((bs t2).toList==x.toList)=false:=by rw[jP];simp[hx]
         have HN:=hide hstep;clear hstep hw hEt hBt hRt hwt hLt HEn HTl HXl HM hx;generalize bs t2=tk at*;go_wp2;go_ret;refine⟨?_,HB'.out⟩;rw[HN.out];exact rfl
       ·have hlk:=hEt.look (s:=t2) HTl;have hw:bF lj (true,t2)=dG lj (bs t2):=by simp[bF]
        rw[hw] at hstep;cases hg:dG lj (bs t2) with
        |some y=>
         rw[hg] at hstep hlk;dsimp only[Option.getD_some,Option.isSome_some] at hstep hlk
         by_cases hx:y=x
         ·rw[if_pos hx,←HM.out] at hstep;subst hx;have HM':=hide hstep;have HE':=hide (hEt.mono (Nat.le_succ _));have HB':=hide hBt;have HR':=hide hRt;have HLk:=hide hlk;rw[hwt] at HE' HB' HR' HLk;clear hstep hw hg hEt hBt hRt hwt hLt HEn HM HTl HXl hlk;generalize bs t2=tk at*
          go_wp2_with (at_lookup;refine bR _ rfl _ _ _ _ rfl _ _ _ rfl rfl HLk.out ?_)
          go_roundg (args.length- (j+1))
          case measure=>omega
          case rel=>exact⟨j+1,by omega,by go_num,lj,HE',HM',HB',HR',by simp;omega⟩
         ·rw[if_neg hx,←HM.out] at hstep;have HN:=hide hstep;have HB':=hide hBt;have HLk:=hide hlk;rw[hwt] at HB' HLk;have hne:(y.toList==x.toList)=false:=by rw[jP];simp[hx]
          clear hstep hw hg hEt hBt hRt hwt hLt HEn HM HTl HXl hlk hx;generalize bs t2=tk at*
          go_wp2_with (at_lookup;refine bR _ rfl _ _ _ _ rfl _ _ _ rfl rfl HLk.out ?_)
          go_ret;refine⟨?_,HB'.out⟩;rw[HN.out];exact rfl
        |none=>
         obtain⟨w6,hup,hE6,hg6⟩:=hEt.store (by unfold maxLen;omega) HTl hg HXl;rw[hg] at hstep hlk;dsimp only[Option.getD_none,Option.isSome_none] at hstep hlk;rw[←HM.out] at hstep;have HM':=hide hstep;have HE':=hide hE6;have hB6:Below w.heap.size w w6:=hBt.grown hg6 hBt.size (fun j hj=>by cases hj;omega);have hR6:w6.heap[w.heap.size+1]?=some (.cells #[.string nm,.slice (some ⟨b3,o3,none⟩) args.length fc] 27 (0,0)):=by
          rw[hg6.block _ (by omega) (fun e=>by have:=Option.some.inj e;omega)];exact hRt
         have hs6:wt.heap.size≤w6.heap.size:=hg6.size;have f6:w6.cell? ⟨w.heap.size+1,1,none⟩=some (.slice (some ⟨b3,o3,none⟩) args.length fc):=by rw[cell_of_row _ _ _ _ _ _ hR6];rfl
         have d6:w6.cell? ⟨b3,o3+j,none⟩=some (.string x):=by
          rw[hB6.cell (p:=⟨b3,o3+j,none⟩) hb3,←HBn.out.cell (p:=⟨b3,o3+j,none⟩) hb3];exact d3
         have HB':=hide hB6;have HR':=hide hR6;have HLk:=hide hlk;have HUp:=hide hup;rw[hwt] at HLk HUp;have SF:w.heap.size+3<w6.heap.size:=by omega
         clear hstep hw hg hEt hBt hRt hwt hLt HEn HM HTl HXl hlk hup hE6 hg6 hB6 hR6 hs6 hst;generalize bs t2=tk at*
         go_wp2_with (first
          |(at_lookup;refine bR _ rfl _ _ _ _ rfl _ _ _ rfl rfl HLk.out ?_)
          |(at_mapUpdate;refine aN _ rfl _ _ _ _ rfl _ _ _ _ rfl rfl rfl HUp.out ?_))
         go_roundg (args.length- (j+1))
         case measure=>omega
         case rel=>exact⟨j+1,by omega,by go_num,_,HE',HM',HB',HR',SF⟩
      ·have hj':j=args.length:=by omega
       subst hj';have hm:=HM.out;rw[Ux.out] at hm;have HR:Hid (res=some lj):=hm;have HE':=hide (HEn.out.mono (m:=n+q) (by omega));clear hm HM HEn;go_wp2;go_ret;refine⟨?_,HBn.out⟩;rw[HR.out];exact⟨_,rfl,by omega,HE'.out⟩
    ·intro x c kl yd yp w4 GJ hkey hlk hv hat SG El hg4 hs4 hen;obtain⟨x',ex,rfl,_⟩:=Maps.keyOf_str Tryz.underlying9 hkey;obtain rfl:x=x':=encStr_inj ex;clear ex;have Uy:=hout.kept hg4 (by simp)
     go_wp2_with (first
      |(at_mapUpdate;refine wpList_mapUpdate_own _ rfl _ _ _ 173 rfl 9 9 hKs Tryz.underlying173 _ (w.heap.size+2) _ _ rfl Uy (by unfold maxLen;omega) _ _ _ rfl rfl hkey _ _ hv ?_;intro w5 Uz hg5;go_frame)
      |go_in)
     have WI:=SG.kept hg5 (fun e=>by have:=Option.some.inj e;omega) (fun e=>by have:=Option.some.inj e;omega)
     go_roundw
     case rel=>
      refine⟨_,GJ,_,WI,by omega,Uz.mono (by omega),agree_step hA hout.isMap trivial hat,
       (hnx.grown hg4 hnx.size (fun j hj=>by cases hj;omega)).grown hg5 (by have:=hnx.size;omega) (fun j hj=>by cases hj;omega),?_,?_,by have:=hg5.size;omega⟩
      ·rw[hg5.block _ (by omega) (fun e=>by have:=Option.some.inj e;omega),hg4.block _ (by omega) (fun e=>by have:=Option.some.inj e;omega)];exact hr0
      ·rw[hg5.block _ (by omega) (fun e=>by have:=Option.some.inj e;omega),hg4.block _ (by omega) (fun e=>by have:=Option.some.inj e;omega)];exact hr1
     case measure=>rw[WI.left_eq,hrg.left_eq];exact El
  ·have HM:Hid (dw ⟨no,name,ts⟩ (fn,args) l=none):=by
    show _=_;unfold dw;rw[if_neg (fun h=>hlen h.2)]
   generalize dw ⟨no,name,ts⟩ (fn,args) l=res at*;clear hnm;subst hname;have hne:((ts.length:Int) != (args.length:Int))=true:=by
    have:¬(ts.length:Int)=(args.length:Int):=by omega
    simpa using this
   clear hlen HE HTS HFS HT HSF
   go_enter Tryz.func100,Tryz.ntmps100
   go_wp2;go_ret;refine⟨?_,((by repeat (first|exact Later.refl _|assumption|refine Later.drewN ?_ _|refine Later.drew ?_|refine Later.alloc ?_ _|refine Later.grow ?_ _)):Later _ _).below⟩;rw[HM.out];exact rfl
 ·have HM:Hid (dw ⟨no,name,ts⟩ (fn,args) l=none):=by
   show _=_;unfold dw;rw[if_neg (fun h=>hname (by rw[hnm];exact h.1))]
  generalize dw ⟨no,name,ts⟩ (fn,args) l=res at*;clear hnm;have hne:(nm.toList==fn.toList)=false:=by rw[jP];simp[hname]
  clear hname HE HTS HFS HT HSF
  go_enter Tryz.func100,Tryz.ntmps100
  go_wp2;go_ret;refine⟨?_,((by repeat (first|exact Later.refl _|assumption|refine Later.drewN ?_ _|refine Later.drew ?_|refine Later.alloc ?_ _|refine Later.grow ?_ _)):Later _ _).below⟩;rw[HM.out];exact rfl
end Go.Proofs.YtafmbokfkbccaaaGreatDoor
namespace Go.Proofs.YtafmbokfkbccaaaGreatDoor
open Go.RowKit Go.Sort Go.Maps
set_option maxRecDepth 100000 in
set_option maxHeartbeats 400000 in
theorem M5 (a:aI) (tv:Value) (l:List aB) (b n:Nat) (w:World) (ht:eH.sl bg w tv a.terms) (he:jW w b n l) (hts:∀t∈a.terms,t.2.length≤maxLen):
  Calls Tryz.prog 101 #[.agg #[.bool a.no,.string (bs a.name),tv],.map (some b)] w fun e w'=>∃v,e=.returned (.tuple #[v,.bool (bA a l).isSome])∧dH w' v (filled a l)∧Later w w'∧∀f,bA a l=some f→∃s,v=.agg #[.string f.1,s]∧bsK.own 9 (w.heap.size+3) w' s f.2:=by
 obtain⟨sa,cap,rfl⟩:=Kind.slice ht;have HT:=hide ht;have HE:=hide he;have HTS:=hide hts;have hn:=ht.1.1;clear ht he hts;obtain⟨no,name,ts⟩:=a;dsimp only at*;have F:Hid (∀r,aU l ts=r→bA ⟨no,name,ts⟩ l=r.map fun x=>(bs name,x)):=fun r h=>by unfold bA;rw[h];cases r <;> rfl
 unfold filled;generalize hfb:bA ⟨no,name,ts⟩ l=fb at*;clear hfb;generalize bs name=nm at*
 go_enter Tryz.func101,Tryz.ntmps101
 go_wp2
 go_loopg [17] ts.length (fun g i wr=>∃j:Nat,j+g=ts.length∧i=.int .i64 j∧∃r o,Hid (aU l (ts.take j)=some r)∧Hid (bsK.own 9 (w.heap.size+3) wr o r)∧Hid (r.length=j)∧Hid (Later w wr)∧w.heap.size+3≤wr.heap.size∧
  Hid (wr.heap[w.heap.size+1]?=some (.cells #[.string {data:=#[]},.slice none 0 0] 27 (0,0)))∧Hid (wr.heap[w.heap.size+2]?=some (.cells #[.string nm,o] 27 (0,0))))
 case atStart=>
  refine⟨0,by omega,rfl,[],.slice none 0 0,(rfl:_=_),bsK.fF _ _ _,(rfl:_=_),((by repeat (first|exact Later.refl _|assumption|refine Later.drewN ?_ _|refine Later.drew ?_|refine Later.alloc ?_ _|refine Later.grow ?_ _)):Later _ _),by simp,?_,?_⟩
  all_goals
   show _=_;simp only[bY,World.size_alloc]
   repeat (first|rw[if_pos trivial]|rw[if_pos (by omega)]|rw[if_neg (by omega)])
 case round=>
  obtain⟨j,hj,rfl,r,o,HR,HO,hrl,HL,hsz,H2,H3⟩:=hrel;obtain⟨ao,co,rfl⟩:=Kind.aV HO.out
  by_cases hlt:j<ts.length
  ·obtain⟨x,hx⟩:∃x,ts[j]?=some x:=⟨_,List.getElem?_eq_getElem hlt⟩;obtain⟨b1,o1,_,rfl,hb1,rfl,hc⟩:=Kind.bQ HT.out hx;have d0:wr.cell? ⟨b1,o1+j*2,none⟩=some (.bool x.1):=by rw[HL.out.cell hb1];exact hc 0 _ rfl
   have d1:wr.cell? ⟨b1,o1+j*2+1,none⟩=some (.string (bs x.2)):=by rw[HL.out.cell hb1];exact hc 1 _ rfl
   have hbr:b1<wr.heap.size:=by have:=HL.out.size;omega
   have HS:=hide (o8 hx HR.out);have hxl:=HTS.out x (List.mem_of_getElem? hx);obtain⟨wt,hwt⟩:∃wt,wt=wr.alloc (.cells #[.bool x.1,.string (bs x.2)] 187):=⟨_,rfl⟩;have hLt:Later w wt:=by rw[hwt];exact HL.out.alloc _
   have hst:wt.heap.size=wr.heap.size+1:=by rw[hwt];simp
   have hbl:∀k,k<wr.heap.size→wt.heap[k]?=wr.heap[k]?:=fun k hk=>by rw[hwt];exact Below.heap_alloc _ _ _ hk
   have hlk:=(HE.out.later hLt).look (s:=x.2) hxl;have HWT:=hide hwt;clear hc hx;obtain⟨x1,x2⟩:=x;dsimp only at*;have hww:bF l (x1,x2)=if x1 then dG l (bs x2) else some (bs x2):=rfl;cases hw:bF l (x1,x2) with
   |none=>
    rw[hw] at HS;have HF:Hid (fb=none):=F.out none (pq HS.out);have hx1:x1=true:=by cases x1 with|true=>rfl|false=>rw[hw] at hww;simp at hww
    subst hx1;rw[hw] at hww;simp only[if_true] at hww;rw[←hww] at hlk;dsimp only[Option.getD_none,Option.isSome_none] at hlk;have Z2:=hide ((hbl _ (by omega)).trans H2.out);have HL2:=hide hLt;have HLk:=hide hlk;rw[HWT.out] at Z2 HL2 HLk;obtain⟨q0,q1,p0,p1,q2⟩:=iK Z2.out;clear hw hww HS hlk hLt hbl hwt HWT hst hxl;generalize bs x2=kx at*
    go_wp2_with (at_lookup;refine bR _ rfl _ _ _ _ rfl _ _ _ rfl rfl HLk.out ?_)
    obtain⟨r0,r1⟩:=qH Z2.out (.string {data:=#[]}) (.slice none 0 0);refine bodyPost_ret (v:=.tuple #[.agg #[.string {data:=#[]},.slice none 0 0],.bool false]) (by simp[results,Tryz.results101,go_sem,r0,r1]) rfl ⟨_,by rw[HF.out];rfl,?_,?_,fun f hf=>by rw[HF.out] at hf;cases hf⟩
    ·rw[HF.out];exact⟨_,rfl,by simp[aA],none,0,rfl,fun h=>absurd rfl h⟩
    ·exact(HL2.out.setCell (by show w.heap.size≤w.heap.size+1;omega) _).setCell (by show w.heap.size≤w.heap.size+1;omega) _
   |some s=>
    rw[hw] at HS;have HS1:Hid (aU l (ts.take (j+1))=some (r++[s])):=HS.out;obtain⟨q0,q1,p0,p1,q2⟩:=iK ((hbl _ (by omega)).trans H3.out);obtain⟨v',w4,hrun,hO4,hg4,hd4,hv4⟩:=Ah (Kind.dV HO.out (by omega:wr.heap.size≤wt.heap.size) fun k hk _=>hbl k hk) s (by have:=hrl.out;omega) (by omega);have hlo:∀k,(Value.slice ao r.length co).ownBlock=some k→w.heap.size+3≤k:=fun k e=>(Kind.bN HO.out e).1;have hb4:∀k,k<w.heap.size+3→w4.heap[k]?=wr.heap[k]?:=fun k hk=>by
     rw[hg4.block k (by simp;omega) (fun e=>by have:=hlo k e.symm;omega),Below.heap_alloc _ _ _ (by omega)];exact hbl k (by omega)
    have hs4:wt.heap.size<w4.heap.size:=by have:=hg4.size;simp at this;omega
    have HL4:=hide (hLt.more hg4 hd4 fun k e=>by have:=hlo k e;omega);have Z3:=hide ((hb4 _ (by omega)).trans H3.out);obtain⟨_,y1,_,t1,y2⟩:=iK Z3.out;have Z2:=hide ((hb4 _ (by omega)).trans H2.out);obtain⟨a4,n4,c4,rfl⟩:∃a n c,v'=.slice a n c:=by obtain⟨a,c,e⟩:=Kind.aV hO4;exact⟨a,_,c,e⟩
    have HR4:=hide hrun;have HO4:=hide hO4;have HLk:=hide hlk;rw[HWT.out] at q0 q1 p0 p1 q2 HR4 HLk;simp only[World.size_alloc] at HR4;cases x1
    ·have hs:s=bs x2:=by rw[hw] at hww;simpa using hww
     subst hs;clear hw hww HS hlk HLk hLt hbl hwt hrun hO4 hg4 hd4 hv4 hb4 hst hxl HWT;generalize bs x2=kx at*
     go_wp2_with (at_builtin;refine wpList_append_run rfl (.tmp 36) (.tmp 38) 25 rfl _ _ _ _ rfl rfl HR4.out ?_)
     go_roundg (ts.length- (j+1))
     case measure=>omega
     case rel=>
      refine⟨j+1,by omega,by go_num,r++[kx],.slice a4 n4 c4,HS1,?_,(by simp[hrl.out]:(r++[kx]).length=j+1),?_,?_,?_,?_⟩
      ·exact Kind.dV HO4.out (by simp[World.setCell]) fun k _ hk=>Below.heap_setCell _ _ _ _ (by show k≠w.heap.size+2;omega)
      ·exact(Later.setCell HL4.out (p:=⟨w.heap.size+1+1,1,none⟩) (by show w.heap.size≤w.heap.size+2;omega) _:Later _ _)
      ·simp[World.setCell];omega
      ·show _=_;rw[Below.heap_setCell _ _ _ _ (by show w.heap.size+1≠w.heap.size+2;omega)];exact Z2.out
      ·show _=_;rw[dF Z3.out];rfl
    ·have hs:dG l (bs x2)=some s:=by rw[hw] at hww;simpa using hww.symm
     rw[hs] at HLk;dsimp only[Option.getD_some,Option.isSome_some] at HLk;clear hs hw hww HS hlk hLt hbl hwt hrun hO4 hg4 hd4 hv4 hb4 hst hxl HWT;generalize bs x2=kx at*
     go_wp2_with (first
      |(at_lookup;refine bR _ rfl _ _ _ _ rfl _ _ _ rfl rfl HLk.out ?_)
      |(at_builtin;refine wpList_append_run rfl (.tmp 36) (.tmp 38) 25 rfl _ _ _ _ rfl rfl HR4.out ?_))
     go_roundg (ts.length- (j+1))
     case measure=>omega
     case rel=>
      refine⟨j+1,by omega,by go_num,r++[s],.slice a4 n4 c4,HS1,?_,(by simp[hrl.out]:(r++[s]).length=j+1),?_,?_,?_,?_⟩
      ·exact Kind.dV HO4.out (by simp[World.setCell]) fun k _ hk=>Below.heap_setCell _ _ _ _ (by show k≠w.heap.size+2;omega)
      ·exact(Later.setCell HL4.out (p:=⟨w.heap.size+1+1,1,none⟩) (by show w.heap.size≤w.heap.size+2;omega) _:Later _ _)
      ·simp[World.setCell];omega
      ·show _=_;rw[Below.heap_setCell _ _ _ _ (by show w.heap.size+1≠w.heap.size+2;omega)];exact Z2.out
      ·show _=_;rw[dF Z3.out];rfl
  ·have e:j=ts.length:=by omega
   subst e;have HR1:Hid (fb=some (nm,r)):=by
    have:=HR.out;rw[List.take_length] at this;exact F.out _ this
   obtain⟨q0,q1,p0,p1,q2⟩:=iK H2.out;obtain⟨y0,y1,t0,t1,y2⟩:=iK H3.out;go_wp2;obtain⟨r0,r1⟩:=qH (R:=w.heap.size+1) H2.out (.string nm) (.slice ao r.length co);refine bodyPost_ret (v:=.tuple #[.agg #[.string nm,.slice ao r.length co],.bool true]) (by simp[results,Tryz.results101,go_sem,r0,r1]) rfl ⟨_,by rw[HR1.out];rfl,?_,?_,fun f hf=> ?_⟩
   ·rw[HR1.out];refine wW HO.out (by have:=hrl.out;omega) (fun k hk=> ?_) (by simp[World.setCell]);rw[Below.heap_setCell _ _ _ _ (by show k≠w.heap.size+1;omega),Below.heap_setCell _ _ _ _ (by show k≠w.heap.size+1;omega)]
   ·exact(HL.out.setCell (by show w.heap.size≤w.heap.size+1;omega) _).setCell (by show w.heap.size≤w.heap.size+1;omega) _
   ·rw[HR1.out] at hf;cases hf;refine⟨_,rfl,Kind.dV HO.out (by simp[World.setCell]) fun k _ hk=> ?_⟩;rw[Below.heap_setCell _ _ _ _ (by show k≠w.heap.size+1;omega),Below.heap_setCell _ _ _ _ (by show k≠w.heap.size+1;omega)]
theorem Jt (a:aI) (tv:Value) (l:List aB) (b n:Nat) (w:World) (ht:eH.sl bg w tv a.terms) (he:jW w b n l) (hts:∀t∈a.terms,t.2.length≤maxLen):
  Calls Tryz.prog 101 #[.agg #[.bool a.no,.string (bs a.name),tv],.map (some b)] w fun e w'=>∃v,e=.returned (.tuple #[v,.bool (bA a l).isSome])∧dH w' v (filled a l)∧Later w w':=
 (M5 a tv l b n w ht he hts).mono fun _ _ ⟨v,h1,h2,h3,_⟩=>⟨v,h1,h2,h3⟩
end Go.Proofs.YtafmbokfkbccaaaGreatDoor
namespace Go.Proofs.YtafmbokfkbccaaaGreatDoor
open Go.RowKit Go.Sort Go.Maps
def qj (n:Nat):Kind (List aB) where
 size:=1
 is:=fun B w c l=>∃b,c=[.map (some b)]∧B b∧jW w b n l
 len:=fun⟨b,h,_,_⟩=>by subst h;rfl
 one:=fun⟨b,h,_,_⟩ u hu=>by subst h;simp at hu;subst hu;rfl
 kept:=fun⟨b,h,hB,he⟩ _ h2=>⟨b,h,hB,he.block (h2 b he.lt hB)⟩
 mono:=fun⟨b,h,hB,he⟩ h1=>⟨b,h,h1 b he.lt hB,he⟩
theorem Bl {n m:Nat} {B:Nat→Prop} {w:World} {v:Value} {L:List (List aB)} (h:(qj n).sl B w v L) (hn:n≤m):(qj m).sl B w v L:=by
 obtain⟨h0,a,cap,e,h1⟩:=h;refine⟨h0,a,cap,e,fun hl=> ?_⟩;obtain⟨b,off,ea,hB,hb,hc⟩:=h1 hl;refine⟨b,off,ea,hB,hb,fun i x hx=> ?_⟩;obtain⟨c,⟨b',hc1,hB',he⟩,hc2⟩:=hc i x hx;exact⟨c,⟨b',hc1,hB',he.mono hn⟩,hc2⟩
theorem OW:∃i,Tryz.prog.info? 173=some i∧i.zero=some (.map none)∧i.size=1∧i.bytes=8:=⟨Tryz.t173,by kernel_rfl,by kernel_rfl,by kernel_rfl,by kernel_rfl⟩
theorem Bn {α:Type} {K:Kind α} {ty:TypeId} {lo:Nat} {w:World} {v:Value} {l:List α} (h:K.own ty lo w v l) {k:Nat} (hk:v.ownBlock=some k):∃cs,w.heap[k]?=some (.cells cs ty (0,0)):=by
 obtain⟨xs,ho,_⟩:=h;rcases ho.2 with⟨rfl,_⟩|⟨g,cap,cur,rfl,_,hg,_⟩
 ·simp[Value.ownBlock] at hk
 ·simp only[Value.ownBlock,Option.some.injEq] at hk;subst hk;exact⟨cur,hg⟩
theorem CU {α:Type} {K:Kind α} {ty:TypeId} {lo:Nat} {w:World} {v:Value} {l:List α} (h:K.own ty lo w v l) {b n:Nat} {e:List aB} (he:jW w b n e):v.ownBlock≠some b:=fun hk=>by
 obtain⟨cs,h1⟩:=Bn h hk;obtain⟨es,c,h2⟩:=he.isMap;rw[h1] at h2;cases h2
theorem Bo {n lo:Nat} {w:World} {v:Value} {L:List (List aB)} (h:(qj n).own 173 lo w v L) {b:Nat} {l:List aB} (he:jW w b n l) (hb:lo≤b) (hl:L.length+1≤10000000) (hlo:lo≤w.heap.size):
  ∃v' w',(Builtin.append_ #[257,257] 257 #[v,.slice (some ⟨w.heap.size,0,none⟩) 1 1]).run Tryz.prog (w.alloc (.cells #[.map (some b)] 173))=.ok v' w'∧(qj n).own 173 lo w' v' (L++[l])∧(w.alloc (.cells #[.map (some b)] 173)).grownBy w' v.ownBlock∧w.drawn≤w'.drawn∧
   ∀k,v'.ownBlock=some k→v.ownBlock=some k∨w.heap.size<k:=by
 obtain⟨i,i1,i2,i3,i4⟩:=OW;exact Kind.j5 h Tryz.underlying257 i1 i2 i3 i4 rfl (Nat.one_pos) (c:=[.map (some b)]) ⟨b,rfl,⟨hb,CU h he⟩,he⟩ (by omega) (by simp[maxLen];omega) hlo
set_option maxRecDepth 100000 in
set_option maxHeartbeats 400000 in
theorem UA (B:Nat) (i at_:Int) (fa oa:Option Addr) (fn fc on oc:Nat) (w:World) (h0:w.cell? ⟨B,0,none⟩=some (.slice fa fn fc)) (h1:w.cell? ⟨B+1,0,none⟩=some (.int .i64 at_)) (h2:w.cell? ⟨B+2,0,none⟩=some (.slice oa on oc)):
  Calls Tryz.prog 250 #[.int .i64 i,.pointer (some ⟨B+1,0,none⟩),.pointer (some ⟨B+2,0,none⟩),.pointer (some ⟨B,0,none⟩)] w fun e w'=>e=.returned (if i=at_ then .slice oa on oc else .slice fa fn fc)∧w'=w:=by
 by_cases h:i=at_
 ·subst h;have hq:(i==i)=true:=by simp
  go_enter Tryz.func250,Tryz.ntmps250
  go_wp2;go_ret;exact⟨by simp,rfl⟩
 ·have hq:(i==at_)=false:=by simpa using h
  go_enter Tryz.func250,Tryz.ntmps250
  go_wp2;go_ret;exact⟨rfl,rfl⟩
theorem FZ {pick:Nat→List au} {body:List aI} {j:Nat} {a:aI} {ms:List (List aB)} (h:body[j]?=some a):
  dI pick j (body.drop j) ms=if a.no then dI pick (j+1) (body.drop (j+1)) ms else if 20000<(aQ a (pick j) ms).length then none else dI pick (j+1) (body.drop (j+1)) (aQ a (pick j) ms):=by
 have h1:body.drop j=a::body.drop (j+1):=by
  obtain⟨h,e⟩:=List.getElem?_eq_some_iff.1 h;rw[List.drop_eq_getElem_cons h,e]
 rw[h1]
 rfl
theorem Bp {a:aI} {fs:List au} {ms:List (List aB)} {p:Nat} {l:List aB} (h:ms[p]?=some l):aQ a fs (ms.take (p+1))=aQ a fs (ms.take p)++fs.filterMap fun f=>dw a f l:=by
 rw[List.take_add_one,h];unfold aQ;rw[List.flatMap_append];simp
theorem nS {α β:Type} {g:α→Option β} {fs:List α} {q:Nat} {x:α} (h:fs[q]?=some x):(fs.take (q+1)).filterMap g=(fs.take q).filterMap g++(g x).toList:=by
 rw[List.take_add_one,h,List.filterMap_append];simp only[Option.toList_some,List.filterMap_cons,List.filterMap_nil];cases g x <;> rfl
theorem oC {a:aI} {fs:List au} (hf:fs.length≤200):∀(ms:List (List aB)),(aQ a fs ms).length≤200*ms.length
 |[]=>by simp[aQ]
 |l::ms=>by
  have h1:=oC (a:=a) hf ms;have h2:(fs.filterMap fun f=>dw a f l).length≤fs.length:=List.length_filterMap_le _ _;unfold aQ at*;rw[List.flatMap_cons,List.length_append,List.length_cons];omega
theorem vo {pick:Nat→List au} {l:List aB}:∀(ats:List aI) (n i:Nat) {a:aI},ats[i]?=some a→
  barredB pick n (ats.take (i+1)) l=(barredB pick n (ats.take i) l||(a.no&&(match bA a l with|some f=>inB (pick (n+i)) f|none=>false)))
 |[],_,_,_,h=>by simp at h
 |x::ats,n,0,a,h=>by
  simp at h;subst h;simp only[List.take_succ_cons,List.take_zero,barredB,Bool.or_false,Bool.false_or,Nat.add_zero]
  rfl
 |x::ats,n,i+1,a,h=>by
  have:=vo (pick:=pick) (l:=l) ats (n+1) i (a:=a) (by simpa using h);rw[List.take_succ_cons,List.take_succ_cons];simp only[barredB];rw[this,Bool.or_assoc,show n+1+i=n+(i+1) by omega]
end Go.Proofs.YtafmbokfkbccaaaGreatDoor
