import Derived.Shelf.Spec.SlicesGrow
import Derived.Test.YtafmbokfkbccaaaGreatDoorProg
import Derived.Test.YtafmbokfkbccaaaGreatDoorJN14
import Derived.Test.YtafmbokfkbccaaaGreatDoorJN15
import Derived.Test.YtafmbokfkbccaaaGreatDoorJN7
import Derived.Test.YtafmbokfkbccaaaGreatDoorJN5
import Derived.Test.YtafmbokfkbccaaaGreatDoorJN2
namespace Go.Proofs
open Go.Shelf
def Tryz.growFacts_ren:Go.Shelf.Ren:=⟨fun|4=>267|n=>n,fun|22=>24|25=>27|3=>3|4=>4|9=>9|20=>20|0=>0|n=>n,fun|n=>n⟩
theorem Tryz.growFacts:Go.Proofs.Lays8.n4 Tryz.prog Tryz.growFacts_ren:={
 mixed:=by kernel_rfl
 f4:=⟨Tryz.f267.name,by decide,Tryz.func267.trans (congrArg some (by kernel_rfl))⟩
 t0:=Tryz.underlying0
 a0:=Tryz.isAgg0
 z0:=Tryz.sizeOf0
 v0:=Tryz.zeroValue0
 t3:=Tryz.underlying3
 a3:=Tryz.isAgg3
 z3:=Tryz.sizeOf3
 v3:=Tryz.zeroValue3
 t4:=Tryz.underlying4
 a4:=Tryz.isAgg4
 z4:=Tryz.sizeOf4
 v4:=Tryz.zeroValue4
 t9:=Tryz.underlying9
 a9:=Tryz.isAgg9
 z9:=Tryz.sizeOf9
 v9:=Tryz.zeroValue9
 t20:=Tryz.underlying20
 a20:=Tryz.isAgg20
 z20:=Tryz.sizeOf20
 v20:=Tryz.zeroValue20
 t22:=Tryz.underlying24
 a22:=Tryz.isAgg24
 z22:=Tryz.sizeOf24
 v22:=Tryz.zeroValue24}
end Go.Proofs
namespace Go.Proofs.YtafmbokfkbccaaaGreatDoor
open Go.RowKit Go.Sort Go.Shelf
theorem Rk (w0 w:World) (hL:Later w0 w) (n:Nat) (hn:n≤3518437208883):Calls Tryz.prog 267 #[.slice none 0 0,.int .i64 n] w fun e w'=>
  ∃v',e=.returned v'∧oF w' w0.heap.size v' []∧Later w w'∧∀k,v'.ownBlock=some k→w.heap.size≤k:=by
 by_cases h0:n=0
 ·subst h0;exact(Any8.slices_Grow_room Tryz.growFacts none 0 0 0 w (Nat.le_refl _) (by omega) (by omega) (Nat.le_refl _)).mono fun e w' ⟨he,hw⟩=>
   ⟨_,he,by rw[hw];exact⟨[],World.ownsRow_nil w _ _ _,fun i hi=>by simp at hi⟩,by rw[hw];exact Later.refl _,fun k hk=>by simp[Value.ownBlock] at hk⟩
 ·obtain⟨i,i1,i2,i3,i4⟩:=oK;refine(Any8.slices_Grow_grow Tryz.growFacts i _ i1 i2 (by omega) none 0 0 n [] w (Nat.le_refl _) (by omega) (by rw[i4];omega) (by omega) (by simp) (fun _=>rfl) (fun a h=>by cases h)).mono fun e w' ⟨he,hw⟩=>⟨_,he,?_,?_,fun k hk=> ?_⟩
  ·rw[hw];have hge:=grownCap_ge w (0+n) 0 (Tryz.growFacts_ren.t 25);have hcm:=grownCap_le_maxLen w (0+n) 0 (Tryz.growFacts_ren.t 25) (by simp only[maxLen];omega);refine⟨[],World.ownsRow_made (base:=w0.heap.size) (e:=27) (size:=2) w.drew _ _ hL.size hcm ?_,fun i hi=>by simp at hi⟩;simp only[Array.size_append,List.size_toArray,size_zeroCells];show 0+(0+n-0)*2+(grownCap w (0+n) 0 (Tryz.growFacts_ren.t 25)- (0+n))*2=_;omega
  ·rw[hw];exact(Later.refl w).drew.alloc _
  ·simp[Value.ownBlock] at hk;omega
set_option maxHeartbeats 1000000 in
theorem concat (w0 w:World) (hL:Later w0 w) (c cp:Nat) (va vb:Value) (la lb:List aI) (ha:Facts w0 va la) (hb:Facts w0 vb lb) (hn:la.length+lb.length≤3518437208883) (hc0:w.cell? ⟨c,0,none⟩=some va) (hc1:w.cell? ⟨c,1,none⟩=some vb) (hcb:c<w.heap.size):
  Calls Tryz.prog 212 #[.slice (some ⟨c,0,none⟩) 2 cp] w fun e w'=>∃v',e=.returned v'∧oF w' w0.heap.size v' (la++lb)∧Later w0 w':=by
 have HA:=hide ha;have HB:=hide hb;obtain⟨a1,c1,rfl⟩:=aB ha;obtain⟨a2,c2,rfl⟩:=aB hb;clear ha hb;have s1:¬((la.length:Int)<0):=by omega
 have s2:¬((la.length:Int)+(lb.length:Int)<0):=by omega
 go_enter Tryz.func212,Tryz.ntmps212
 go_wp2;refine wp_loop_rounds 3 ?_;rw[rounds_succ];go_wp2;rw[rounds_succ];go_wp2;rw[rounds_succ]
 go_wp2_with fail
 rw[show((la.length:Int)+(lb.length:Int))=((la.length+lb.length:Nat):Int) by omega];refine(Rk w0 w hL (la.length+lb.length) hn).mono ?_;rintro e w1 ⟨v1,rfl,hR1,hL1,hk1⟩;obtain⟨v2,w2,Oe,hR2,hL2,hg2,hk2⟩:=hR1.append (hL.trans hL1) HA.out (by simp;omega);obtain⟨v3,w3,Og,hR3,hL3,hg3,hk3⟩:=hR2.append hL2 HB.out (by simp;omega);rw[List.nil_append] at hR3;have y0:w1.cell? ⟨c,0,none⟩=some (.slice a1 la.length c1):=by rw[hL1.cell (p:=⟨c,0,none⟩) hcb];exact hc0
 have y1:w1.cell? ⟨c,1,none⟩=some (.slice a2 lb.length c2):=by rw[hL1.cell (p:=⟨c,1,none⟩) hcb];exact hc1
 have y2:w2.cell? ⟨c,1,none⟩=some (.slice a2 lb.length c2):=by
  rw[World.cell?_of_block (w:=w1) (hg2.block c (Nat.lt_of_lt_of_le hcb hL1.size) (fun e=>by have:=hk1 c e.symm;omega))];exact y1
 have R2:=hide Oe;have R3:=hide Og;have HR:=hide hR3;clear Oe Og hR1 hR2 hR3 hg2 hg3;go_wp2;refine wp_loop_rounds 3 ?_;rw[rounds_succ]
 go_wp2_with (at_builtin;refine wpList_append_run rfl (.tmp 31) (.tmp 32) 24 rfl _ _ _ _ rfl rfl R2.out ?_)
 rw[rounds_succ]
 go_wp2_with (at_builtin;refine wpList_append_run rfl (.tmp 31) (.tmp 32) 24 rfl _ _ _ _ rfl rfl R3.out ?_)
 rw[rounds_succ];go_wp2;go_ret;exact⟨v3,rfl,HR.out,hL3⟩
set_option maxHeartbeats 400000 in
theorem Mt (va vb:Value) (la lb:List aI) (w:World) (ha:Facts w va la) (hb:Facts w vb lb) (hn:la.length+lb.length≤3518437208883):
  Calls Tryz.prog 151 #[va,vb] w fun e w'=>∃v' s,e=.returned v'∧x9 s (la++lb)∧bY w' w.heap.size v' s∧Later w w':=by
 have HA:=hide ha;have HB:=hide hb;obtain⟨a1,c1,rfl⟩:=aB ha;obtain⟨a2,c2,rfl⟩:=aB hb;clear ha hb
 go_enter Tryz.func151,Tryz.ntmps151
 go_wp2_with fail
 refine(concat w _ (by repeat (first|exact Later.refl _|assumption|refine Later.drewN ?_ _|refine Later.drew ?_|refine Later.alloc ?_ _|refine Later.grow ?_ _)) w.heap.size 2 _ _ la lb HA.out HB.out hn (by simp) (by simp) (by simp)).mono ?_;rintro e w1 ⟨v1,rfl,hR,hL⟩;have hr0:=rise w1 w.heap.size v1 (la++lb) hR (by simpa using hn);obtain⟨a3,c3,rfl⟩:=tT hR.choose_spec.1;rw[List.length_append] at hr0;have hr:=hide hr0;clear hR hr0
 go_wp2_with fail
 refine hr.out.mono ?_;rintro e w2 ⟨v2,s,rfl,hs,hO,hW⟩;have HS:=hide hs;have HO:=hide hO;clear hs hO;go_wp2;go_ret;exact⟨v2,s,rfl,HS.out,HO.out.base hL.size,hW.later hL (Nat.le_refl _)⟩
end Go.Proofs.YtafmbokfkbccaaaGreatDoor
namespace Go.Proofs.YtafmbokfkbccaaaGreatDoor
open Go.RowKit Go.Sort Go.Maps
theorem bY.stay {base:Nat} {w w':World} {v:Value} {l:List aI} (h:bY w base v l) (hs:w.heap.size≤w'.heap.size) (hk:∀k,k<w.heap.size→base≤k→w'.heap[k]?=w.heap[k]?):bY w' base v l:=by
 obtain⟨xs,ho,hx⟩:=h;refine⟨xs,⟨ho.1,?_⟩,fun i hi'=> ?_⟩
 ·rcases ho.2 with e|⟨g,cap,cur,rfl,hbg,hg,r⟩
  ·exact Or.inl e
  ·exact Or.inr ⟨g,cap,cur,rfl,hbg,by rw[hk g (Array.getElem?_eq_some_iff.1 hg).1 hbg];exact hg,r⟩
 ·obtain⟨c1,s,c2,c3,c4⟩:=hx i hi';exact⟨c1,s,c2,c3.kept' hs fun j hj e=>hk j hj (c4 j e).1,fun j e=>⟨(c4 j e).1,Nat.lt_of_lt_of_le (c4 j e).2.1 hs,(c4 j e).2.2⟩⟩
theorem bY.lt {base:Nat} {w:World} {v:Value} {l:List aI} (h:bY w base v l) {k:Nat} (hk:v.ownBlock=some k):base≤k∧k<w.heap.size:=by
 obtain⟨xs,ho,_⟩:=h;exact ho.lt k hk
theorem bY.slice {base:Nat} {w:World} {v:Value} {l:List aI} (h:bY w base v l):∃a cap,v=.slice a l.length cap:=by
 obtain⟨xs,ho,_⟩:=h;rcases ho.2 with⟨rfl,e⟩|⟨g,cap,cur,rfl,_⟩
 ·exact⟨none,0,by rw[e]⟩
 ·exact⟨_,cap,rfl⟩
set_option maxHeartbeats 400000 in
theorem Vz (a:aF) (ta:Option Addr) (tn tc:Nat) (w:World):
  Calls Tryz.prog 264 #[.agg #[.bool a.no,.string (bs a.name),.slice ta tn tc]] w fun e w'=>e=.returned (.bool (!a.no))∧Later w w':=by
 obtain⟨no,n,x⟩:=a;dsimp only;generalize bs n=s at*
 go_enter Tryz.func264,Tryz.ntmps264
 go_wp2;go_ret;exact⟨rfl,(Later.refl _).alloc _⟩
set_option maxHeartbeats 1000000 in
theorem G6 (v:Value) (l:List aF) (w:World) (hv:bU.sl bZ w v l):
  Calls Tryz.prog 298 #[v,.func (.func 264) #[] #[]] w fun e w'=>∃n:Int,e=.returned (.int .i64 n)∧decide (0≤n)=l.any (fun a=> !a.no)∧Later w w':=by
 obtain⟨a,cap,rfl⟩:=Kind.slice hv;have HV:=hide hv;have hl:=hv.1.1;clear hv
 go_enter Tryz.func298,Tryz.ntmps298
 go_wp2
 go_loopg [8] l.length (fun k i wr=>∃j:Nat,j+k=l.length∧i=.int .i64 j∧Hid (Later w wr)∧Hid (l.any (fun a=> !a.no)=(l.drop j).any (fun a=> !a.no)))
 case atStart=>exact⟨0,by omega,rfl,Later.refl _,(rfl:_=_)⟩
 case round=>
  obtain⟨j,hj,rfl,HL,HF⟩:=hrel
  by_cases hlt:j<l.length
  ·obtain⟨x,hx⟩:∃x,l[j]?=some x:=⟨_,List.getElem?_eq_getElem hlt⟩;obtain⟨b1,o1,_,rfl,hb1,⟨tv,rfl,htv⟩,hc⟩:=Kind.fC HV.out hx;obtain⟨ta,tc,rfl⟩:=Kind.slice htv;have d0:wr.cell? ⟨b1,o1+j*3,none⟩=some (.bool x.no):=by rw[HL.out.cell hb1];exact hc 0 _ rfl
   have d1:wr.cell? ⟨b1,o1+j*3+1,none⟩=some (.string (bs x.name)):=by rw[HL.out.cell hb1];exact hc 1 _ rfl
   have d2:wr.cell? ⟨b1,o1+j*3+2,none⟩=some (.slice ta x.terms.length tc):=by rw[HL.out.cell hb1];exact hc 2 _ rfl
   have HC:=hide (Vz x ta x.terms.length tc wr);have hd:=Dp hx (fun a=> !a.no);clear hc hx htv;cases hf:x.no
   ·have F:Hid (l.any (fun a=> !a.no)=true):=by show _=_;rw[HF.out,hd,hf];rfl
    rw[hf] at HC d0;clear hd HF hf;generalize bs x.name=nm at*
    go_wp2_with (go_at_call 264;refine HC.out.mono ?_;rintro e w' ⟨rfl,hL⟩;replace hL:=hide hL)
    go_ret;exact⟨_,rfl,by rw[F.out];simp,HL.out.trans (bD hL)⟩
   ·have F:Hid (l.any (fun a=> !a.no)=(l.drop (j+1)).any (fun a=> !a.no)):=by show _=_;rw[HF.out,hd,hf];rfl
    rw[hf] at HC d0;clear hd HF hf;generalize bs x.name=nm at*
    go_wp2_with (go_at_call 264;refine HC.out.mono ?_;rintro e w' ⟨rfl,hL⟩;replace hL:=hide hL)
    go_roundg (l.length- (j+1))
    case measure=>omega
    case rel=>exact⟨j+1,by omega,by go_num,HL.out.trans (bD hL),F⟩
  ·have F:Hid (l.any (fun a=> !a.no)=false):=by show _=_;rw[HF.out,List.drop_eq_nil_of_le (by omega)];rfl
   go_wp2;go_ret;exact⟨_,rfl,by rw[F.out];simp,HL.out⟩
set_option maxHeartbeats 400000 in
theorem containsAtom (v:Value) (l:List aF) (w:World) (hv:bU.sl bZ w v l):
  Calls Tryz.prog 263 #[v,.func (.func 264) #[] #[]] w fun e w'=>e=.returned (.bool (l.any fun a=> !a.no))∧Later w w':=by
 have HI:=hide (G6 v l w hv);obtain⟨a,cap,rfl⟩:=Kind.slice hv;clear hv
 go_enter Tryz.func263,Tryz.ntmps263
 go_wp2_with (go_at_call 298;refine HI.out.mono ?_;rintro e w' ⟨n,rfl,hn,hL⟩;replace hn:=hide hn;replace hL:=hide hL)
 go_ret;exact⟨cK (bD hn),bD hL⟩
set_option maxRecDepth 100000 in
set_option maxHeartbeats 2000000 in
theorem Mv (head:aF) (tv rv:Value) (R:List (List aD)) (w:World) (ht:dL.sl bZ w tv head.terms) (hr:lu.sl bZ w rv R) (hn:R.length≤20000):
  Calls Tryz.prog 266 #[.agg #[.bool head.no,.string (bs head.name),tv],rv] w fun e w'=>∃v',e=.returned v'∧bY w' w.heap.size v' (R.filterMap fun l=>aV head l)∧Later w w':=by
 obtain⟨ta,tc,rfl⟩:=Kind.slice ht;obtain⟨ra,rc,rfl⟩:=Kind.slice hr;have HT:=hide ht;have HRL:=hide hr;clear ht hr;have HL0:Hid (Later w (w.alloc (.cells #[.bool head.no,.string (bs head.name),.slice ta head.terms.length tc] 85))):=(Later.refl w).alloc _;have HB0:Hid ((w.alloc (.cells #[.bool head.no,.string (bs head.name),.slice ta head.terms.length tc] 85)).heap[w.heap.size]?=some (.cells #[.bool head.no,.string (bs head.name),.slice ta head.terms.length tc] 85 (0,0))):=heap_alloc_new w _
 go_enter Tryz.func266,Tryz.ntmps266
 go_wp2
 go_loopg [5,12] R.length (fun g v i wr=>∃j:Nat,j+g=R.length∧i=.int .i64 j∧∃D,Hid (D=(R.take j).filterMap fun l=>aV head l)∧Hid (bY wr (w.heap.size+1) v D)∧Hid (D.length≤j)∧Hid (Later w wr)∧w.heap.size<wr.heap.size∧
  Hid (wr.heap[w.heap.size]?=some (.cells #[.bool head.no,.string (bs head.name),.slice ta head.terms.length tc] 85 (0,0))))
 case atStart=>exact⟨0,by omega,rfl,[],(rfl:_=_),bY.nil _ _,(Nat.le_refl _:_≤_),HL0,by simp,HB0⟩
 case round=>
  clear HL0 HB0;obtain⟨j,hj,rfl,D,HD,HO,HDl,HL,hsz,HB⟩:=hrel;obtain⟨va,vc,rfl⟩:=HO.out.slice
  by_cases hlt:j<R.length
  ·obtain⟨l,hx⟩:∃x,R[j]?=some x:=⟨_,List.getElem?_eq_getElem hlt⟩;obtain⟨b1,o1,_,rfl,hb1,⟨lv,rfl,hlv⟩,hc⟩:=Kind.fC HRL.out hx;have d0:wr.cell? ⟨b1,o1+j,none⟩=some lv:=by rw[HL.out.cell (p:=⟨b1,o1+j,none⟩) hb1];simpa[slK] using hc 0 _ rfl
   have HLV:=hide hlv;obtain⟨la,lc,rfl⟩:=Kind.slice hlv;have hrr:=HB.out;have r0:wr.cell? ⟨w.heap.size,0,none⟩=some (.bool head.no):=by rw[cell_of_row _ _ _ _ _ _ hrr];rfl
   have r1:wr.cell? ⟨w.heap.size,0+1,none⟩=some (.string (bs head.name)):=by rw[cell_of_row _ _ _ _ _ _ hrr];rfl
   have r2:wr.cell? ⟨w.heap.size,0+2,none⟩=some (.slice ta head.terms.length tc):=by rw[cell_of_row _ _ _ _ _ _ hrr];rfl
   have HFc:=hide (LU head _ (.slice la l.length lc) l wr (Kind.aQ HT.out HL.out) (Kind.aQ HLV.out HL.out));have htk:R.take (j+1)=R.take j++[l]:=by rw[List.take_add_one,hx];rfl
   unfold filled at HFc;clear hc hx hlv hrr;cases hfl:aV head l with
   |none=>
    rw[hfl] at HFc;have HD':Hid (D=(R.take (j+1)).filterMap fun l=>aV head l):=by
     show _=_;rw[htk,List.filterMap_append,HD.out];simp only[List.filterMap_cons,hfl,List.filterMap_nil,List.append_nil]
    clear hfl htk;generalize bs head.name=nm at*;generalize head.no=no at*
    go_wp2_with fail
    refine HFc.out.mono ?_;rintro e w3 ⟨f3,rfl,hfv,hL3,_⟩;obtain⟨s,rfl,hs⟩:=hfv;obtain⟨sA',sC',rfl⟩:=aW hs;simp only[Option.isSome_none];have HL3:Hid (Later wr w3):=hL3;clear hs hL3;go_wp2
    go_roundg (R.length- (j+1))
    case measure=>omega
    case rel=>exact⟨j+1,by omega,by go_num,D,HD',HO.out.later (HL3.out.alloc _),(Nat.le_succ_of_le HDl.out:_≤_),HL.out.trans (HL3.out.alloc _),by have:=(HL3.out.alloc (.cells #[.string ByteArray.empty,.slice sA' 0 sC'] 27)).size;have:=HL3.out.size;simp;omega,by show _=_;rw[(HL3.out.alloc _).block hsz];exact HB.out⟩
   |some f=>
    rw[hfl] at HFc;have HD':Hid (D++[f]=(R.take (j+1)).filterMap fun l=>aV head l):=by
     show _=_;rw[htk,List.filterMap_append,HD.out];simp only[List.filterMap_cons,hfl,List.filterMap_nil]
    clear hfl htk;generalize bs head.name=nm at*;generalize head.no=no at*
    go_wp2_with fail
    refine HFc.out.mono ?_;rintro e w3 ⟨f3,rfl,hfv,hL3,Mw⟩;simp only[Option.isSome_some,Option.getD_some] at hfv⊢;obtain⟨s,rfl,hs⟩:=hfv;obtain⟨_,s',es,Mw⟩:=Mw;simp only[Value.agg.injEq,Array.mk.injEq,List.cons.injEq,and_true] at es;obtain⟨rfl,rfl⟩:=es;obtain⟨sA',sC',rfl⟩:=aW hs;obtain⟨fn,aJ⟩:=f;dsimp only at*;obtain⟨w4,hw4⟩:∃w4,w4=w3.alloc (.cells #[.string fn,.slice sA' aJ.length sC'] 27):=⟨_,rfl⟩;have hL4:Later w3 w4:=by rw[hw4];exact(Later.refl _).alloc _
    have hr4:w4.heap[w3.heap.size]?=some (.cells #[.string fn,.slice sA' aJ.length sC'] 27 (0,0)):=by rw[hw4];exact heap_alloc_new _ _
    have hz4:w4.heap.size=w3.heap.size+1:=by rw[hw4];simp
    have Tw:Later w w4:=HL.out.trans (hL3.trans hL4);have hO4:bY w4 (w.heap.size+1) (.slice va D.length vc) D:=HO.out.later (hL3.trans hL4);obtain⟨v5,w5,hrun,hO5,hg5,hd5⟩:=hO4.append (fn,aJ) (.slice sA' aJ.length sC') (hs.later hL4) (fun k e=>by
     have h1:=Mw k e;refine⟨by omega,by omega,fun e'=> ?_⟩;have h2:=(HO.out.lt e').2;omega) (by have:=HDl.out;omega) (by have:=hL3.size;omega) rfl
    have HL5:Hid (Later w w5):=Tw.more hg5 hd5 fun k e=>by have:=(HO.out.lt e).1;omega
    have HO5:=hide hO5;have hz3:=hL3.size;have hz5:w.heap.size<w5.heap.size:=by have:=hg5.size;rw[World.size_alloc] at this;omega
    have HB5:Hid (w5.heap[w.heap.size]?=some (.cells #[.bool no,.string nm,.slice ta head.terms.length tc] 85 (0,0))):=by
     show _=_;rw[hg5.block _ (by rw[World.size_alloc];omega) (fun e=>by have:=(HO.out.lt e.symm).1;omega),Below.heap_alloc _ _ _ (by omega),hL4.block (by omega),hL3.block hsz];exact HB.out
    rw[hz4,hw4] at hrun;have HR5:=hide hrun;obtain⟨a5,c5,rfl⟩:=hO5.slice;rw[List.length_append] at HO5;clear hL3 Mw hs hw4 hL4 hr4 hz4 Tw hO4 hO5 hrun hg5 hd5 HFc
    go_wp2_with (at_builtin;refine wpList_append_run rfl (.tmp 23) (.tmp 25) 24 rfl _ _ _ _ rfl rfl HR5.out ?_)
    go_roundg (R.length- (j+1))
    case measure=>omega
    case rel=>exact⟨j+1,by omega,by go_num,D++[(fn,aJ)],HD',HO5,(by have:=HDl.out;simp;omega:(D++[(fn,aJ)]).length≤j+1),HL5,hz5,HB5⟩
  ·have hj':j=R.length:=by omega
   subst hj';rw[List.take_length] at HD;go_wp2;go_ret;exact⟨_,rfl,HD.out▸HO.out.base (Nat.le_succ _),HL.out⟩
def MkB (mb:Nat) (kv nv:Value) (D:List au) (w:World):Prop:=∃dv,w.heap[mb]?=some (.cells #[kv,nv,dv] 280 (0,0))∧bY w (mb+1) dv D
theorem MkB.below {mb:Nat} {kv nv:Value} {D:List au} {w w':World} (h:MkB mb kv nv D w) (k:Below w.heap.size w w'):MkB mb kv nv D w':=by
 obtain⟨dv,h1,h2⟩:=h;exact⟨dv,(k.block _ (Array.getElem?_eq_some_iff.1 h1).1).trans h1,h2.stay k.size fun j hj _=>k.block j hj⟩
theorem MkB.drewN {mb:Nat} {kv nv:Value} {D:List au} {w:World} (h:MkB mb kv nv D w) (q:Nat):MkB mb kv nv D (w.drewN q):=h.below ⟨rfl,rfl,rfl,Nat.le_refl _,fun _ _=>rfl⟩
theorem Ar {n:Nat} {a b:World} (h:Below n a b) (q:Nat):Below n a (b.drewN q):=⟨h.os,h.tape,h.output,h.size,h.block⟩
theorem MkB.lt {mb:Nat} {kv nv:Value} {D:List au} {w:World} (h:MkB mb kv nv D w):mb<w.heap.size:=by
 obtain⟨dv,h1,_⟩:=h;exact(Array.getElem?_eq_some_iff.1 h1).1
def OO (K D L:List au):List au:=if K.length+D.length≤200 then dK (D++L.filter fun f=> !inB K f) else D
structure rG (K D acc:List au):Prop where
 up:Up D
 of:∀f∈D,f∈acc∧f∉K
 all:K.length+D.length≤200→∀f∈acc,f∉K→f∈D
 few:D.length≤20400
theorem rG.nil (K:List au):rG K [] []:=⟨List.Pairwise.nil,fun _ h=>(by cases h),fun _ _ h=>(by cases h),by simp⟩
theorem rG.add {K D acc:List au} (h:rG K D acc) (L:List au) (hL:L.length≤20000):rG K (OO K D L) (acc++L):=by
 unfold OO;split
 ·rename_i hc;have hm:∀f,f∈dK (D++L.filter fun f=> !inB K f)↔f∈D∨(f∈L∧f∉K):=fun f=>by
   rw[cu,List.mem_append,List.mem_filter];refine or_congr Iff.rfl (and_congr Iff.rfl ?_);rw[Bool.not_eq_true',←Bool.not_eq_true,aZ]
  refine⟨iI _,fun f hf=> ?_,fun _ f hf hn=> ?_,?_⟩
  ·rcases(hm f).1 hf with h1|⟨h1,h2⟩
   ·exact⟨List.mem_append.2 (Or.inl (h.of f h1).1),(h.of f h1).2⟩
   ·exact⟨List.mem_append.2 (Or.inr h1),h2⟩
  ·rcases List.mem_append.1 hf with h1|h1
   ·exact(hm f).2 (Or.inl (h.all hc f h1 hn))
   ·exact(hm f).2 (Or.inr ⟨h1,hn⟩)
  ·have h1:=rY (D++L.filter fun f=> !inB K f);have h2:=List.length_filter_le (fun f=> !inB K f) L;rw[List.length_append] at h1;omega
 ·rename_i hc;exact⟨h.up,fun f hf=>⟨List.mem_append.2 (Or.inl (h.of f hf).1),(h.of f hf).2⟩,fun h'=>absurd h' hc,h.few⟩
theorem Au (K L:List au):(L.filter fun f=> !gq K f 0)=L.filter fun f=> !inB K f:=by
 congr 1
 funext f
 congr 1
 rw[Bool.eq_iff_iff,mX,aZ]
set_option maxRecDepth 100000 in
set_option maxHeartbeats 2000000 in
theorem yO (mb:Nat) (K D L:List au) (kv nv lv:Value) (w:World) (hm:MkB mb kv nv D w) (hk:Facts w kv K) (hu:Up K) (hl:Facts w lv L) (hK:K.length≤200) (hL:L.length≤20000) (hD:D.length≤20400):
  Calls Tryz.prog 265 #[.pointer (some ⟨mb,0,none⟩),lv] w fun e w'=>(∃u,e=.returned u)∧MkB mb kv nv (OO K D L) w'∧Tn mb w w':=by
 have HMk:=hide hm;obtain⟨dv,hrow,hO⟩:=hm;obtain⟨ka,kc,rfl⟩:=aB hk;obtain⟨la,lc,rfl⟩:=aB hl;obtain⟨da,dc,rfl⟩:=hO.slice;have hmb:mb<w.heap.size:=(Array.getElem?_eq_some_iff.1 hrow).1;have c0:w.cell? ⟨mb,0,none⟩=some (.slice ka K.length kc):=by rw[cell_of_row _ _ _ _ _ _ hrow];rfl
 have c2:w.cell? ⟨mb,2,none⟩=some (.slice da D.length dc):=by rw[cell_of_row _ _ _ _ _ _ hrow];rfl
 have FP:=hide hrow;have HO:=hide hO;have HK:=hide hk;have HLv:=hide hl;have HUp:=hide hu;clear hrow hO hk hl hu;unfold OO
 by_cases hc:K.length+D.length≤200
 ·rw[if_pos hc];have hcz:(K.length:Int)+(D.length:Int)≤200:=by omega
  have HLs:Hid (∀w1,Below w.heap.size w w1→Calls Tryz.prog 43 #[.slice la L.length lc,.slice ka K.length kc] w1 fun e w'=>∃v',e=.returned v'∧Facts w' v' (L.filter fun f=> !inB K f)∧Below w.heap.size w w'):=fun w1 h1=>
   (JD (.slice la L.length lc) (.slice ka K.length kc) L K w1 (HLv.out.below h1) (HK.out.below h1) HUp.out).mono fun e w' ⟨v',he,hO',hL'⟩=>⟨v',he,by
    rw[Au] at hO';exact hO'.facts (by have:=List.length_filter_le (fun f=> !inB K f) L;omega),aj h1 hL'.below h1.size⟩
  have HJn:Hid (∀w1 v1 L1,L1.length≤20000→Facts w1 v1 L1→Below w.heap.size w w1→Calls Tryz.prog 151 #[.slice da D.length dc,v1] w1 fun e w'=>∃v',e=.returned v'∧bY w' w.heap.size v' (dK (D++L1))∧Below w.heap.size w w'):=fun w1 v1 L1 hl1 hf1 h1=>
   (Mt (.slice da D.length dc) v1 D L1 w1 ((HO.out.facts (by omega)).below h1) hf1 (by omega)).mono fun e w' ⟨v',s,he,hS,hO',hL'⟩=>⟨v',he,by
    have e:s=dK (D++L1):=p8 hS.1 hS.2.1;rw[←e];exact hO'.base h1.size,aj h1 hL'.below h1.size⟩
  have HC2:Hid (∀w1,Below w.heap.size w w1→w1.cell? ⟨mb,2,none⟩=some (.slice da D.length dc)∧w1.cell? ⟨mb,0,none⟩=some (.slice ka K.length kc)):=fun w1 h1=>
   ⟨by rw[h1.cell (p:=⟨mb,2,none⟩) hmb];exact c2,by rw[h1.cell (p:=⟨mb,0,none⟩) hmb];exact c0⟩
  have HFin:Hid (∀w2 v2,bY w2 w.heap.size v2 (dK (D++L.filter fun f=> !inB K f))→Below w.heap.size w w2→MkB mb (.slice ka K.length kc) nv (dK (D++L.filter fun f=> !inB K f)) (w2.setCell ⟨mb,2,none⟩ v2)∧Tn mb w (w2.setCell ⟨mb,2,none⟩ v2)):=fun w2 v2 h1 h2=>by
   have hr2:w2.heap[mb]?=some (.cells #[.slice ka K.length kc,nv,.slice da D.length dc] 280 (0,0)):=(h2.block _ hmb).trans FP.out;refine⟨⟨v2,by rw[eu hr2];rfl,?_⟩,Tn.setCell (p:=mb) (Tn.of_below h2) (x:=⟨mb,2,none⟩) (Or.inl rfl) _⟩;exact(h1.stay (by rw[size_setCell];exact Nat.le_refl _) fun k _ hk=>heap_setCell_other _ _ _ (by show k≠mb;omega)).base (by omega)
  have HFz:Hid (∀w2,Below w.heap.size w w2→w2.frozen? ⟨mb,2,none⟩=false):=fun w2 h2=>by
   have hr2:w2.heap[mb]?=some (.cells #[.slice ka K.length kc,nv,.slice da D.length dc] 280 (0,0)):=(h2.block _ hmb).trans FP.out;simp[World.frozen?,hr2]
  have hLf:=List.length_filter_le (fun f=> !inB K f) L;clear HK HLv HUp HO FP
  go_enter Tryz.func265,Tryz.ntmps265
  go_wp2
  go_quiet (fail)
  go_wp2;have hBe:Below w.heap.size w (w.drewN nq).drew:=(Ar (Below.refl _ w) nq).drew;refine wp_region_held_drew (S:=fun w'=>Tn mb w w'∧w'.cell? ⟨mb,0,none⟩=some (.slice ka K.length kc)) (by kernel_rfl) ⟨Tn.of_below hBe,c0⟩ (fun hHeld=> ?_);refine ak (i:=0) (d:=some 16) (v:= ?_) rfl rfl hHeld ?_ ?_;rotate_left;focus intro w hSw;(try dsimp only at hSw);go_simp;try with_reducible rfl
  simp only[aK,aL,aze,asu];refine ak (i:=1) (d:=some 17) (v:= ?_) rfl rfl hHeld ?_ ?_;rotate_left;focus intro w hSw;(try dsimp only at hSw);go_simp;try with_reducible rfl
  simp only[aK,aL,aze,asu];refine ak (i:=2) (d:=some 18) (v:= ?_) rfl rfl hHeld ?_ ?_;rotate_left;focus intro w hSw;(try dsimp only at hSw);go_simp;try with_reducible rfl
  simp only[aK,aL,aze,asu];refine ak (i:=3) (d:=some 19) (v:= ?_) rfl rfl hHeld ?_ ?_;rotate_left;focus intro w hSw;(try dsimp only at hSw);go_simp;try with_reducible rfl
  simp only[aK,aL,aze,asu];refine ak (i:=5) (d:=some 21) (v:= ?_) rfl rfl hHeld ?_ ?_;rotate_left;focus intro w hSw;(try dsimp only at hSw);go_simp;try with_reducible rfl
  simp only[aK,aL,aze,asu];refine ak (i:=6) (d:=some 22) (v:= ?_) rfl rfl hHeld ?_ ?_;rotate_left;focus intro w hSw;(try dsimp only at hSw);go_simp;try with_reducible rfl
  simp only[aK,aL,aze,asu];refine ak (i:=7) (d:=some 23) (v:= ?_) rfl rfl hHeld ?_ ?_;rotate_left;focus intro w hSw;(try dsimp only at hSw);go_simp;try with_reducible rfl
  simp only[aK,aL,aze,asu];refine ak (i:=8) (d:=some 24) (v:= ?_) rfl rfl hHeld ?_ ?_;rotate_left;focus intro w hSw;(try dsimp only at hSw);go_simp;try with_reducible rfl
  simp only[aK,aL,aze,asu];refine ak (i:=9) (d:=some 25) (v:= ?_) rfl rfl hHeld ?_ ?_;rotate_left;focus intro w hSw;(try dsimp only at hSw);have q0:=hSw.2;go_simp;try with_reducible rfl
  simp only[aK,aL,aze,asu];refine wpAnyH_ready (rs:=[4,10]) (by kernel_rfl) (by simp) ?_;refine AllReadyH.cons rfl (fun K hK=> ?_) (AllReadyH.cons rfl (fun K hK=> ?_) AllReadyH.nil)
  ·have q2:=(HC2.out _ hBe).1;go_simp;refine hK.out _ _ hHeld (fun hHeld=> ?_);clear hK K q2;refine wpAnyH_ready (rs:=[10]) (by kernel_rfl) (by simp) ?_;refine AllReadyH.cons rfl (fun K hK=> ?_) AllReadyH.nil;go_simp;refine(HLs.out _ hBe).mono ?_;rintro e w1 ⟨v1,rfl,hF1,hB1⟩;refine hK.out _ _ ⟨Tn.of_below hB1,(HC2.out _ hB1).2⟩ (fun hHeld=> ?_);clear hK K;refine wpAnyH_ready (rs:=[11]) (by kernel_rfl) (by simp) ?_;refine AllReadyH.cons rfl (fun K hK=> ?_) AllReadyH.nil;go_simp;refine(HJn.out _ v1 _ (Nat.le_trans hLf hL) hF1 hB1).mono ?_;rintro e w2 ⟨v2,rfl,hO2,hB2⟩;obtain⟨a2,n2,d2,rfl⟩:∃a n c,v2=.slice a n c:=by obtain⟨a,c,e⟩:=hO2.slice;exact⟨a,_,c,e⟩
   refine hK.out _ _ ⟨Tn.of_below hB2,(HC2.out _ hB2).2⟩ (fun hHeld=> ?_);clear hK K;refine ak (i:=12) (d:=some 28) (v:= ?_) rfl rfl hHeld ?_ ?_;rotate_left;focus intro w hSw;(try dsimp only at hSw);go_simp;try with_reducible rfl
   simp only[aK,aL,aze,asu];refine ak (i:=13) (d:=some 29) (v:= ?_) rfl rfl hHeld ?_ ?_;rotate_left;focus intro w hSw;(try dsimp only at hSw);go_simp;try with_reducible rfl
   simp only[aK,aL,aze,asu];refine wpAnyH_ready (rs:=[14]) (by kernel_rfl) (by simp) ?_;refine AllReadyH.cons rfl (fun K hK=> ?_) AllReadyH.nil;have q2:=(HC2.out _ hB2).1;have fz:=HFz.out _ hB2;go_simp;refine hK.out _ _ ⟨(HFin.out _ _ hO2 hB2).2,by rw[World.cell?_setCell_other _ _ _ _ (by simp)];exact(HC2.out _ hB2).2⟩ (fun hHeld=> ?_);clear hK K;refine wpAnyH_done (by kernel_rfl) ?_ _;have HF2:=hide (HFin.out _ _ hO2 hB2);clear q2 fz hO2 hB2 hF1 hB1 hHeld;go_wp2;go_end0;exact⟨⟨_,rfl⟩,HF2.out⟩
  ·go_simp;refine(HLs.out _ hBe).mono ?_;rintro e w1 ⟨v1,rfl,hF1,hB1⟩;refine hK.out _ _ ⟨Tn.of_below hB1,(HC2.out _ hB1).2⟩ (fun hHeld=> ?_);clear hK K;refine wpAnyH_ready (rs:=[4]) (by kernel_rfl) (by simp) ?_;refine AllReadyH.cons rfl (fun K hK=> ?_) AllReadyH.nil;have q2:=(HC2.out _ hB1).1;go_simp;refine hK.out _ _ hHeld (fun hHeld=> ?_);clear hK K q2;refine wpAnyH_ready (rs:=[11]) (by kernel_rfl) (by simp) ?_;refine AllReadyH.cons rfl (fun K hK=> ?_) AllReadyH.nil;go_simp;refine(HJn.out _ v1 _ (Nat.le_trans hLf hL) hF1 hB1).mono ?_;rintro e w2 ⟨v2,rfl,hO2,hB2⟩;obtain⟨a2,n2,d2,rfl⟩:∃a n c,v2=.slice a n c:=by obtain⟨a,c,e⟩:=hO2.slice;exact⟨a,_,c,e⟩
   refine hK.out _ _ ⟨Tn.of_below hB2,(HC2.out _ hB2).2⟩ (fun hHeld=> ?_);clear hK K;refine ak (i:=12) (d:=some 28) (v:= ?_) rfl rfl hHeld ?_ ?_;rotate_left;focus intro w hSw;(try dsimp only at hSw);go_simp;try with_reducible rfl
   simp only[aK,aL,aze,asu];refine ak (i:=13) (d:=some 29) (v:= ?_) rfl rfl hHeld ?_ ?_;rotate_left;focus intro w hSw;(try dsimp only at hSw);go_simp;try with_reducible rfl
   simp only[aK,aL,aze,asu];refine wpAnyH_ready (rs:=[14]) (by kernel_rfl) (by simp) ?_;refine AllReadyH.cons rfl (fun K hK=> ?_) AllReadyH.nil;have q2:=(HC2.out _ hB2).1;have fz:=HFz.out _ hB2;go_simp;refine hK.out _ _ ⟨(HFin.out _ _ hO2 hB2).2,by rw[World.cell?_setCell_other _ _ _ _ (by simp)];exact(HC2.out _ hB2).2⟩ (fun hHeld=> ?_);clear hK K;refine wpAnyH_done (by kernel_rfl) ?_ _;have HF2:=hide (HFin.out _ _ hO2 hB2);clear q2 fz hO2 hB2 hF1 hB1 hHeld;go_wp2;go_end0;exact⟨⟨_,rfl⟩,HF2.out⟩
 ·rw[if_neg hc];have hcz:¬((K.length:Int)+(D.length:Int)≤200):=by omega
  go_enter Tryz.func265,Tryz.ntmps265
  go_wp2
  go_quiet (fail)
  go_wp2;go_end0;exact⟨⟨_,rfl⟩,HMk.out.drewN _,(Tn.refl _ _).drewN _⟩
end Go.Proofs.YtafmbokfkbccaaaGreatDoor
namespace Go.Proofs.YtafmbokfkbccaaaGreatDoor
open Go.RowKit Go.Sort
theorem uh {s:ByteArray} (h:isNamed (raw s)=true):s.size≤12:=by
 unfold isNamed at h;simp only[Bool.and_eq_true,decide_eq_true_eq] at h;rw[aP] at h;exact h.1.1
theorem j4 {f:au}:fA f=0↔kJ f:=by
 unfold fA kJ;rw[lU]
 constructor
 ·intro h;split at h
  ·simp at h
  ·rename_i h1;split at h
   ·simp at h
   ·rename_i h2;split at h
    ·simp at h
    ·rename_i h3;refine⟨by simpa using h1,by omega,fun s hs=> ?_⟩;cases e:isNamed (raw s) with
     |true=>rfl
     |false=>
      exfalso
      refine h3 ?_;unfold iU;rw[List.drop_zero,List.any_eq_true];exact⟨s,hs,by rw[lU,e];rfl⟩
 ·rintro⟨h1,h2,h3⟩;rw[if_neg (by simp[h1]),if_neg (by omega),if_neg];intro h;unfold iU at h;rw[List.drop_zero,List.any_eq_true] at h;obtain⟨s,hs,hn⟩:=h;rw[lU,h3 s hs] at hn;cases hn
end Go.Proofs.YtafmbokfkbccaaaGreatDoor
