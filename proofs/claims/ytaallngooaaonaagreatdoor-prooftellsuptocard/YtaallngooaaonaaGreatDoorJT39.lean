import Derived.Test.YtaallngooaaonaaGreatDoorJT31
import Derived.Test.YtaallngooaaonaaGreatDoorJT9
import Derived.Test.YtaallngooaaonaaGreatDoorJT14
import Derived.Test.YtaallngooaaonaaGreatDoorJT38
import Derived.Test.YtaallngooaaonaaGreatDoorJT5
import Derived.Test.YtaallngooaaonaaGreatDoorJT32
import Derived.Test.YtaallngooaaonaaGreatDoorJT35
import Derived.Test.YtaallngooaaonaaGreatDoorJT12
import Derived.BigQuiet
open Go.RowKit Go.Sort Go.Maps
set_option maxHeartbeats 8000000
set_option maxRecDepth 100000
namespace Go.Proofs.YtaallngooaaonaaGreatDoor
def Got (D0:DataW Unit) (left:Lit→Bool) (O:List aD):Prop:=
 ∀x:aD,x∈O↔(Maps.has D0 (.string (raw x.1))=true∧left (.string (raw x.1))=false∧∀z,D0.atKey (.string (raw x.1)) z=.lit (.string (raw x.2)))
theorem JB (D0:DataW Unit):Got D0 (Maps.has D0) []:=fun x=>by
 constructor
 ·intro h;simp at h
 rintro⟨h1,h2,_⟩;rw[h1] at h2;cases h2
theorem LP {D0:DataW Unit} {left:Lit→Bool} {O O':List aD} {k c:ByteArray} (h:Got D0 left O) (hat:∀zd,D0.atKey (.string (raw k)) zd=.lit (.string (raw c))) (hp:O'.Perm ((k,c)::O)):
  Got D0 (fun z=>left z&& !z.sameKey (.string (raw k))) O':=fun x=>by
 rw[hp.mem_iff,List.mem_cons]
 constructor
 ·rintro(rfl|hx);·refine⟨has_true_of_atKey hat,?_,hat⟩;show(left _&& !Lit.sameKey _ _)=false;rw[WideAt.sameKey_self (Ic (raw k))];simp
  obtain⟨h1,h2,h3⟩:=(h x).1 hx;exact⟨h1,by show(left _&&_)=false;rw[h2];rfl,h3⟩
 ·rintro⟨h1,h2,h3⟩
  replace h2:(left (.string (raw x.1))&& !Lit.sameKey (.string (raw x.1)) (.string (raw k)))=false:=h2
  cases hl:left (.string (raw x.1)) with
  |false=>exact Or.inr ((h x).2 ⟨h1,hl,h3⟩)
  |true=>
   left
   rw[hl] at h2;have hs:Lit.sameKey (.string (raw x.1)) (.string (raw k))=true:=by simpa using h2
   have e1:=WideAt.sameKey_eq hs
   injection e1 with e1
   have e2:x.1=k:=qm e1;have e3:=h3 (.map []);rw[e1,hat] at e3
   injection e3 with e3
   injection e3 with e3
   exact Prod.ext e2 (qm e3).symm
theorem Rl {D0:DataW Unit} {left:Lit→Bool} {O:List aD} {k:ByteArray} (h:Got D0 left O) (hk:left (.string (raw k))=true):∀y∈O,y.1≠k:=fun y hy e=>by have:=((h y).1 hy).2.1;rw[e,hk] at this;cases this
theorem OQ {D0:DataW Unit} {left:Lit→Bool} {O l:List aD} (h:Got D0 left O) (hl:∀k,left k=false) (hn:(bJ l).Nodup) (hO:O.Pairwise fun a b=>lU a b<0)
  (hD:∀s:Bs,Maps.has D0 (.string s)=(dB l (bs s)).isSome∧∀t,dB l (bs s)=some t→∀z,D0.atKey (.string s) z=.lit (.string (raw t))):O=gX l:=by
 refine oM eu hO (mg hn) fun x=>?_;unfold gX;rw[(bM l).mem_iff,h x];have hx:=hD (raw x.1);rw[iT] at hx
 constructor
 ·rintro⟨h1,_,h3⟩;rw[hx.1] at h1;obtain⟨t,ht⟩:=Option.isSome_iff_exists.1 h1;have e:=h3 (.map []);rw[hx.2 t ht] at e
  injection e with e
  injection e with e
  have:=mO ht;rw[qm e] at this;exact this
 intro hm;have hg:dB l x.1=some x.2:=kT hn hm;exact⟨by rw[hx.1,hg];rfl,hl _,hx.2 _ hg⟩
theorem FU {x y:aD} (h:Op.bytesLess x.1.toList y.1.toList=true):lU x y<0:=by have:=Ch x y;rw[h] at this;simpa using this
theorem Rm {O:List aD} {k:Nat} {v n:ByteArray} (hO:O.Pairwise fun a b=>lU a b<0) (hne:∀y∈O,y.1≠v) (hk:k≤O.length) (ha:∀t (y:aD),t<k→O[t]?=some y→Op.bytesLess y.1.toList v.toList=true) (hb:∀y:aD,O[k]?=some y→Op.bytesLess y.1.toList v.toList=false):
  (O.take k++[(v,n)]++O.drop k).Pairwise fun a b=>lU a b<0:=by
 refine Rk hO (fun y hy=>?_) fun y hy=>?_;·obtain⟨t,ht,e⟩:=List.getElem_of_mem hy;rw[List.length_take] at ht;rw[List.getElem_take] at e;exact FU (ha t y (by omega) (by rw[List.getElem?_eq_getElem (by omega),e]))
 have first:∀z:aD,O[k]?=some z→lU (v,n) z<0:=fun z hz=>by
  have h1:=hb z hz;have h2:=hne z (List.mem_of_getElem? hz);have h3:¬lU z (v,n)<0:=fun h=>by
   have h4:=Ch z (v,n);rw[decide_eq_true h] at h4;dsimp only at h4;rw[h1] at h4;have h5:(z.1.toList==v.toList)=false:=by rw[jK];simp[h2]
   rw[h5] at h4;cases h4
  have h6:=eu.swap (v,n) z;have h7:lU (v,n) z≠0:=fun e=>h2 (by have:=eu.zero _ _ e;rw[←this]);omega
 obtain⟨t,ht,e⟩:=List.getElem_of_mem hy;rw[List.length_drop] at ht;rw[List.getElem_drop] at e
 by_cases h0:t=0
 ·subst h0;exact first y (by rw[List.getElem?_eq_getElem (by omega)];simp only[Nat.add_zero] at e;rw[e])
 have h1:=first _ (List.getElem?_eq_getElem (by omega:k<O.length))
 have h2:=List.pairwise_iff_getElem.1 hO k (k+t) (by omega) (by omega) (by omega);rw[e] at h2;exact eu.trans _ _ _ h1 h2
theorem Bq {lo:Nat} {w:World} (h:lo≤w.heap.size):bq.own 108 lo (w.alloc (.cells #[] 108)) (.slice (some ⟨w.heap.size,0,none⟩) 0 0) []:=
 ⟨[],⟨rfl,Or.inr ⟨w.heap.size,0,#[],rfl,h,heap_alloc_new _ _,by simp,by simp[maxLen],by simp,by rfl⟩⟩,fun i x hi=>by simp at hi⟩
theorem aB.vC {ty:TypeId} {lo:Nat} {w w':World} {v:Value} {l:List aD} (h:bq.own ty lo w v l) (k:ak w w'):bq.own ty lo w' v l:=aB.dS h k.size fun _ hk _=>k.block hk
theorem Rn {w:World} {g:Nat} {x y:ByteArray} (h:w.heap[g]?=some (.cells #[.string x,.string y] 108 (0,0))):bq.sl bf w (.slice (some ⟨g,0,none⟩) [(x,y)].length 1) [(x,y)]:=by
 refine⟨⟨by simp,by show _≤_;simp⟩,_,1,rfl,fun _=>⟨g,0,rfl,trivial,(Array.getElem?_eq_some_iff.1 h).1,fun i z hi=>?_⟩⟩;cases i with
 |succ i=>simp at hi
 |zero=>
  simp at hi;subst hi;refine⟨_,rfl,fun j u hu=>?_⟩;rw[show 0+0*bq.size+j=j by simp,cell_of_row _ _ _ _ _ _ h];simpa using hu
theorem LQ {w:World} {a:Option Addr} {n cap:Nat} {l:List aD} (h:bq.sl bf w (.slice a n cap) l) (k:Nat) (hk:k≤l.length):bq.sl bf w (.slice a (l.take k).length cap) (l.take k):=by
 obtain⟨⟨h0,h1⟩,a',cap',e,h2⟩:=h;simp only[Value.slice.injEq] at e;obtain⟨rfl,rfl,rfl⟩:=e;have hl:(l.take k).length=k:=by rw[List.length_take];omega
 have h1':l.length≤cap:=h1;refine⟨⟨by omega,by show(l.take k).length≤cap;omega⟩,a,cap,rfl,fun hne=>?_⟩;obtain⟨b,off,e,hB,hb,hc⟩:=h2 (by intro e;rw[e] at hne;simp at hne);refine⟨b,off,e,hB,hb,fun i x hx=>hc i x ?_⟩;rw[List.getElem?_take] at hx;split at hx;·exact hx
 cases hx
theorem Em {w:World} {b off n cap:Nat} {l:List aD} (h:bq.sl bf w (.slice (some ⟨b,off,none⟩) n cap) l) (k:Nat) (hk:k≤l.length):bq.sl bf w (.slice (if cap=k then some ⟨b,off,none⟩ else some ⟨b,off+k*2,none⟩) (l.drop k).length (cap-k)) (l.drop k):=by
 obtain⟨h0,a',cap',e,h1⟩:=h;simp only[Value.slice.injEq] at e;obtain⟨rfl,rfl,rfl⟩:=e;have h02:l.length≤cap:=h0.2
 by_cases hkl:k=l.length
 ·subst hkl;rw[List.drop_length];exact bq.eH _ _ _ _
 rw[if_neg (by omega)];obtain⟨b',off',e,hB,hb,hcl⟩:=h1 (by intro e;rw[e] at hk hkl;simp at hk hkl;omega);simp only[Option.some.injEq,Addr.mk.injEq] at e;obtain⟨rfl,rfl,_⟩:=e;have h01:=h0.1;refine⟨⟨by rw[List.length_drop];omega,by show(l.drop k).length≤cap-k;rw[List.length_drop];omega⟩,_,cap-k,rfl,fun _=>⟨b,_,rfl,hB,hb,fun i y hi=>?_⟩⟩;rw[List.getElem?_drop] at hi;obtain⟨d,d1,d2⟩:=hcl (k+i) y hi;refine⟨d,d1,fun j u hu=>?_⟩;have:=d2 j u hu;rw[show off+(k+i)*bq.size+j=off+k*2+i*bq.size+j by show off+(k+i)*2+j=off+k*2+i*2+j;omega] at this;exact this
theorem OT {w w':World} {b r n cnt:Nat} {D:DataW Unit} {left:Lit→Bool} (h:w.ranges Tryz.prog 9 (plainElem Tryz.prog 9) b r n D left cnt) (k:Below w.heap.size w w'):w'.ranges Tryz.prog 9 (plainElem Tryz.prog 9) b r n D left cnt:=by have h1:=h.owns.lt;have h2:=h.lt;obtain⟨es,clock,since,seen,c0,hb,F,hs,hD,hr,rest⟩:=h;exact⟨es,clock,since,seen,c0,(k.block b h1).trans hb,F,hs,hD,(k.block r h2).trans hr,rest⟩
theorem Ro (l:List aD) (b n:Nat) (w:World) (he:jR w b n l) (hkn:(bJ l).Nodup) (hn:n≤10000000):
  Calls Tryz.prog 79 #[.map (some b)] w fun e w'=>∃v',e=.returned v'∧bq.own 108 (w.heap.size+1) w' v' (gX l)∧Below w.heap.size w w':=by
 obtain⟨D0,hown,hD0⟩:=he;have hsz0:=hown.size_le;have hbl:=hown.lt;have Pk:=au hown;have HD0:=au hD0;have HKN:=au hkn;clear hown hD0 hkn;have hKs:=string_keyed (P:=Tryz.prog) Tryz.underlying9
 go_enter Tryz.func79,Tryz.ntmps79
 go_wp2_with (first
  |(at_range;refine wpList_range_own _ rfl _ 84 rfl 9 9 hKs Tryz.underlying84 _ b n _ rfl Pk.out ?_;intro w0 hrg0 hg0 hs0)
  |go_in)
 try go_frame
 go_loopw [3] (fun s3 wr=>∃(left:Lit→Bool) (cnt:Nat) (O:List aD) (oa:Option Addr) (oc:Nat),s3=.slice oa O.length oc∧wr.ranges Tryz.prog 9 (plainElem Tryz.prog 9) b w.heap.size n D0 left cnt∧Hid (O.length+cnt≤Maps.size D0)∧
   Hid (bq.own 108 (w.heap.size+1) wr (.slice oa O.length oc) O)∧Hid (O.Pairwise fun a b=>lU a b<0)∧Hid (Got D0 left O)∧Hid (Below w.heap.size w wr)∧w.heap.size<wr.heap.size)
  (fun _ wr=>wr.rangeLeft b w.heap.size)
 case atStart=>
  refine⟨_,_,[],none,0,rfl,hrg0,by show _≤_;simp,bq.fD _ _ _,List.Pairwise.nil,JB D0,((ak.refl w).below).grown hg0 (by omega) (fun j hj=>by cases hj),by omega⟩
 clear hrg0 hg0 hs0;obtain⟨left,cnt,O,oa,oc,rfl,hrg,HC,HO,HP,HG,HB,hsz⟩:=hrel
 go_wp2_with (first
  |(at_next;refine wpList_next_ranges _ rfl _ rfl 9 hKs (plainElem Tryz.prog 9) encStr Value.string (fun key kl hk=>by obtain⟨x,hx,_⟩:=Maps.keyOf_str Tryz.underlying9 hk;exact⟨x,hx⟩) (fun v y hv=>by obtain⟨c,rfl,_⟩:=plainElem_string_inv Tryz.underlying9 hv;exact⟨c,rfl⟩) b w.heap.size n _ _ _ rfl hrg ?_ ?_)
  |go_in)
 ·intro hc0 hl0;subst hc0;have e:=OQ HG.out hl0 HKN.out HP.out HD0.out;subst e;go_wp2;go_ret;exact⟨_,rfl,HO.out,HB.out⟩
 intro x c kl yd yp w4 Sr hkey hlk hv hat Sv Pq hg4 hs4 hen;obtain⟨x',ex,rfl,_⟩:=Maps.keyOf_str Tryz.underlying9 hkey;obtain rfl:x=x':=encStr_inj ex;clear ex;obtain⟨c',ec,ey,_⟩:=plainElem_string_inv Tryz.underlying9 hv
 injection ec with ec
 subst ec
 injection ey with ey _
 subst ey;have ek:encStr x=.string (bs x):=rfl;rw[ek] at hen⊢;have HLk:Hid (left (.string x)=true):=hlk;have HAt:Hid (∀zd,D0.atKey (.string (raw (bs x))) zd=.lit (.string (raw c))):=by rw[jI];exact hat
 have HRg:Hid (w4.ranges Tryz.prog 9 (plainElem Tryz.prog 9) b w.heap.size n D0 (fun z=>left z&& !z.sameKey (.string (raw (bs x)))) Sr):=by rw[jI];exact Sv
 have HRo:=au hrg;have HO4:=au (aB.dS HO.out (by omega) fun k hk h=>hg4.block k hk (fun e=>by have:=Option.some.inj e;omega));have HB4:Hid (Below w.heap.size w w4):=HB.out.grown hg4 HB.out.size (fun k e=>by have:=Option.some.inj e;omega);have hC:=HC.out;have hOm:O.length≤10000000:=by omega
 have HSl:=au (aB.dO (aB.fq HO4.out (by omega)));have Zg:O.length≤oc:=HSl.out.1.2;clear hkey hlk hv hat Sv hrg hg4 ek hC;obtain⟨kk,hkk⟩:∃kk,kk=bs x:=⟨_,rfl⟩;have HKK:=au hkk;rw[←hkk] at hen HAt HRg⊢;clear hkk;go_wp2
 go_loopg [6] O.length (fun g i wr2=>∃j:Nat,j+g=O.length∧i=.int .i64 j∧Hid (∀t (y:aD),t<j→O[t]?=some y→Op.bytesLess y.1.toList kk.toList=true)∧wr2=w4)
 case atStart=>exact⟨0,by omega,rfl,fun t y h=>absurd h (Nat.not_lt_zero _),rfl⟩
 obtain⟨j,hj,rfl,HA,hwr2⟩:=hrel;obtain rfl:w4=_:=hwr2.symm;clear hwr2;have HJ:Hid (j≤O.length):=(by omega:j≤O.length);have hTl:j≤O.length→(O.take j).length=j:=fun h=>by rw[List.length_take];omega
 have hDl:(O.drop j).length=O.length-j:=List.length_drop
 by_cases hlt:j<O.length
 obtain⟨y,hy⟩:∃y,O[j]?=some y:=⟨_,List.getElem?_eq_getElem hlt⟩;obtain⟨b1,o1,_,rfl,hb1,rfl,hc1⟩:=aB.bO HSl.out hy;have d0:w4.cell? ⟨b1,o1+j*2,none⟩=some (.string y.1):=hc1 0 _ rfl;clear hc1;have hltz:(j:Int)<(O.length:Int):=by omega
 cases hq:Op.bytesLess y.1.toList kk.toList;have Rp:Hid (∀y':aD,O[j]?=some y'→Op.bytesLess y'.1.toList kk.toList=false):=fun y' h=>by rw[hy] at h;cases h;exact hq
 obtain⟨dA,hdA⟩:∃z,(if oc=j then some (⟨b1,o1,none⟩:Addr) else some ⟨b1,o1+j*2,none⟩)=z:=⟨_,rfl⟩;have FD:Hid (bq.sl bf w4 (.slice dA (O.drop j).length (oc-j)) (O.drop j)):=by have h:=Em HSl.out j (by omega);rw[hdA] at h;exact h
 rotate_left
 ·have HA':Hid (∀t (y':aD),t<j+1→O[t]?=some y'→Op.bytesLess y'.1.toList kk.toList=true):=fun t y' ht h=>by
   by_cases e:t=j
   ·subst e;rw[hy] at h;cases h;exact hq
   exact HA.out t y' (by omega) h
  clear hTl hDl;go_wp2
  go_roundg (O.length- (j+1))
  case measure=>omega
  case rel=>exact⟨j+1,by omega,by go_num,HA',rfl⟩
 have hge:¬((j:Int)<(O.length:Int)):=by omega
 have Rp:Hid (∀y':aD,O[j]?=some y'→Op.bytesLess y'.1.toList kk.toList=false):=fun y' h=>by rw[List.getElem?_eq_none (by omega)] at h;cases h
 rcases oa with _|q1;have FD:Hid (bq.sl bf w4 (.slice none (O.drop j).length (oc-j)) (O.drop j)):=by show bq.sl _ _ _ _;rw[List.drop_eq_nil_of_le (by omega)];exact bq.eH _ _ _ _
 rotate_left
 obtain⟨b1,o1,hq1⟩:∃b1 o1,q1=⟨b1,o1,none⟩:=by
  obtain⟨xs,ho,_⟩:=HO4.out;rcases ho.2 with⟨e,_⟩|⟨g,cap,cur,e,_⟩;·cases e
  simp only[Value.slice.injEq,Option.some.injEq] at e;exact⟨g,0,e.1⟩
 subst hq1;obtain⟨dA,hdA⟩:∃z,(if oc=j then some (⟨b1,o1,none⟩:Addr) else some ⟨b1,o1+j*2,none⟩)=z:=⟨_,rfl⟩;have FD:Hid (bq.sl bf w4 (.slice dA (O.drop j).length (oc-j)) (O.drop j)):=by have h:=Em HSl.out j (by omega);rw[hdA] at h;exact h
 rotate_left
 all_goals
  replace hTl:=hTl (by omega)
  have hjo:(j:Int)≤(O.length:Int):=by omega
  have hjc:(j:Int)≤(oc:Int):=by omega
  have FT:=au (LQ HSl.out j (by omega));have OU:Hid (([]:List aD).length+(O.take j).length≤4398046511104):=by show 0+(O.take j).length≤_;rw[List.length_take];omega
  have Zh:Hid ((O.take j).length+[(kk,c)].length≤4398046511104):=by show(O.take j).length+1≤_;rw[List.length_take];omega
  have UN:Hid ((O.take j++[(kk,c)]).length+(O.drop j).length≤4398046511104):=by show(O.take j++[(kk,c)]).length+(O.drop j).length≤_;rw[List.length_append,List.length_take,List.length_drop];simp only[List.length_cons,List.length_nil];omega
  have HPn:=au (Rm (n:=c) HP.out (Rl HG.out (by rw[HKK.out,jI];exact HLk.out)) HJ.out HA.out Rp.out);have HGn:=au (LP (O':=O.take j++[(kk,c)]++O.drop j) HG.out HAt.out (CR j));go_wp2;refine wp_region_held_drew (S:=fun w'=>Below w4.heap.size w4 w') (by kernel_rfl) (ak.refl w4).drew.below (fun hHeld=>?_);refine tkY 1 30 hHeld ?_;refine tkY 2 31 hHeld ?_;refine tkY 3 32 hHeld ?_;refine tkY 5 34 hHeld ?_;refine tkY 6 35 hHeld ?_;refine tkY 7 36 hHeld ?_;refine tkY 10 39 hHeld ?_;refine tkY 11 40 hHeld ?_;refine tkY 12 41 hHeld ?_;refine wpAnyH_ready (rs:=[0,8]) (by kernel_rfl) (by simp) ?_;refine AllReadyH.cons rfl (fun K hK=>?_) (AllReadyH.cons rfl (fun K hK=>?_) AllReadyH.nil);go_simp;have R0:bq.own 108 w4.heap.size (w4.alloc (.cells #[] 108)).drew (.slice (some ⟨w4.heap.size,0,none⟩) 0 0) []:=aB.vC (Bq (Nat.le_refl _)) (ak.refl _).drew;have hL1:Below w4.heap.size w4 (w4.alloc (.cells #[] 108)).drew:=((ak.refl w4).alloc _).drew.below;refine hK.out _ _ hL1 (fun hHeld=>?_);clear hK K;clear hHeld;generalize(w4.alloc (.cells #[] 108)).drew=w1 at R0 hL1⊢;have hHeld:=hL1;refine wpAnyH_ready (rs:=[4,8]) (by kernel_rfl) (by simp) ?_;obtain⟨v4,wa,jV,R4,WV,_,hv4⟩:=iC R0 (aB.aJ FT.out hHeld) OU.out (by have:=hHeld.size;omega);rw[hTl] at jV;rw[List.nil_append] at R4;have hS4:Below w4.heap.size w4 wa:=hHeld.grown WV hHeld.size (fun k e=>(aB.dL R0 e).1)
  refine aO (i:=4) (d:=some 33) rfl rfl rfl (.tmp 29) (.tmp 32) 106 106 rfl rfl _ _ _ _ (by simp[Act.eval]) (by simp[Act.eval]) jV hS4 (fun hHeld=>?_) (AllReadyH.cons rfl (fun K hK=>?_) AllReadyH.nil);simp only[Act.put,List.setIfInBounds_toArray,List.set_cons_zero,List.set_cons_succ];clear jV;refine tkC 8 fun K hK=>?_;go_simp;have hbx:=heap_alloc_new wa (.cells #[.string kk,.string c] 108);have R6:=aB.vC R4 ((ak.refl wa).alloc (.cells #[.string kk,.string c] 108));have hL6:=aj hS4 ((ak.refl wa).alloc (.cells #[.string kk,.string c] 108)).below hS4.size;refine hK.out _ _ hL6 (fun hHeld=>?_);clear hK K;clear hHeld;generalize wa.heap.size=g6 at hbx⊢;generalize wa.alloc (.cells #[.string kk,.string c] 108)=w6 at hbx R6 hL6⊢;have hHeld:=hL6
  rotate_left
  clear jV R4 hS4 WV hv4;go_simp;have hbx0:=heap_alloc_new w1 (.cells #[.string kk,.string c] 108);have R5:=aB.vC R0 ((ak.refl w1).alloc (.cells #[.string kk,.string c] 108));have hL5:=aj hL1 ((ak.refl w1).alloc (.cells #[.string kk,.string c] 108)).below hL1.size;have hb5:w1.heap.size<(w1.alloc (.cells #[.string kk,.string c] 108)).heap.size:=by simp
  have hr5:=aB.dL R0 (k:=w4.heap.size) rfl;refine hK.out _ _ hL5 (fun hHeld=>?_);clear hK K;clear hHeld;generalize w1.heap.size=g6 at hbx0 hb5 hr5⊢;generalize w1.alloc (.cells #[.string kk,.string c] 108)=w5 at hbx0 R5 hL5 hb5⊢;have hHeld:=hL5;refine wpAnyH_ready (rs:=[4]) (by kernel_rfl) (by simp) ?_;obtain⟨v4,w6,jV,R6,hg4,_,hv4⟩:=iC R5 (aB.aJ FT.out hHeld) OU.out (by have:=hHeld.size;omega);rw[hTl] at jV;rw[List.nil_append] at R6;have hS4:Below w4.heap.size w4 w6:=hHeld.grown hg4 hHeld.size (fun k e=>(aB.dL R5 e).1);have hbx:=(hg4.block g6 hb5 (fun e=>by have:g6=w4.heap.size:=Option.some.inj e;omega)).trans hbx0;refine aO (i:=4) (d:=some 33) rfl rfl rfl (.tmp 29) (.tmp 32) 106 106 rfl rfl _ _ _ _ (by simp[Act.eval]) (by simp[Act.eval]) jV hS4 (fun hHeld=>?_) AllReadyH.nil;simp only[Act.put,List.setIfInBounds_toArray,List.set_cons_zero,List.set_cons_succ]
  rotate_left
  go_simp;have hbx0:(w4.alloc (.cells #[.string kk,.string c] 108)).drew.heap[w4.heap.size]?=some (.cells #[.string kk,.string c] 108 (0,0)):=heap_alloc_new w4 (.cells #[.string kk,.string c] 108);have hL3:Below w4.heap.size w4 (w4.alloc (.cells #[.string kk,.string c] 108)).drew:=((ak.refl w4).alloc _).drew.below;have hb3:w4.heap.size<(w4.alloc (.cells #[.string kk,.string c] 108)).drew.heap.size:=by simp
  refine hK.out _ _ hL3 (fun hHeld=>?_);clear hK K;clear hHeld;generalize(w4.alloc (.cells #[.string kk,.string c] 108)).drew=w3 at hbx0 hL3 hb3⊢;have hHeld:=hL3;refine tkC 0 fun K hK=>?_;go_simp;have R5:=Bq (w:=w3) (lo:=w4.heap.size) hL3.size;have WW:(w3.alloc (.cells #[] 108)).heap[w4.heap.size]?=some (.cells #[.string kk,.string c] 108 (0,0)):=(((ak.refl w3).alloc (.cells #[] 108)).block hb3).trans hbx0;have hL5:=aj hL3 ((ak.refl w3).alloc (.cells #[] 108)).below hL3.size;have hb5:w4.heap.size<(w3.alloc (.cells #[] 108)).heap.size:=by simp;omega
  refine hK.out _ _ hL5 (fun hHeld=>?_);clear hK K;clear hHeld;generalize w3.heap.size=g3 at R5 hb3⊢;generalize w3.alloc (.cells #[] 108)=w5 at WW R5 hL5 hb5⊢;have hHeld:=hL5;refine wpAnyH_ready (rs:=[4]) (by kernel_rfl) (by simp) ?_;obtain⟨v4,w6,jV,R6,hg4,_,hv4⟩:=iC R5 (aB.aJ FT.out hHeld) OU.out (by have:=hHeld.size;omega);rw[hTl] at jV;rw[List.nil_append] at R6;have hS4:Below w4.heap.size w4 w6:=hHeld.grown hg4 hHeld.size (fun k e=>(aB.dL R5 e).1);have hbx:=(hg4.block w4.heap.size hb5 (fun e=>by have:w4.heap.size=g3:=Option.some.inj e;omega)).trans WW;refine aO (i:=4) (d:=some 33) rfl rfl rfl (.tmp 29) (.tmp 32) 106 106 rfl rfl _ _ _ _ (by simp[Act.eval]) (by simp[Act.eval]) jV hS4 (fun hHeld=>?_) AllReadyH.nil;simp only[Act.put,List.setIfInBounds_toArray,List.set_cons_zero,List.set_cons_succ]
  rotate_left
  all_goals
   refine wpAnyH_ready (rs:=[9]) (by kernel_rfl) (by simp) ?_;obtain⟨v9,w7,Zi,R7,hg9,_,hv9⟩:=iC R6 (Rn hbx) Zh.out (by have:=hHeld.size;omega)
   skip
   have hS9:Below w4.heap.size w4 w7:=hHeld.grown hg9 hHeld.size (fun k e=>(aB.dL R6 e).1);refine aO (i:=9) (d:=some 38) rfl rfl rfl (.tmp 33) (.tmp 37) 106 106 rfl rfl _ _ _ _ (by simp[Act.eval]) (by simp[Act.eval]) Zi hS9 (fun hHeld=>?_) AllReadyH.nil;simp only[Act.put,List.setIfInBounds_toArray,List.set_cons_zero,List.set_cons_succ];refine wpAnyH_ready (rs:=[13]) (by kernel_rfl) (by simp) ?_;obtain⟨v13,w8,Rq,R8,Zj,_,aav⟩:=iC R7 (aB.aJ FD.out hHeld) UN.out (by have:=hHeld.size;omega);rw[hDl] at Rq;have Zk:Below w4.heap.size w4 w8:=hHeld.grown Zj hHeld.size (fun k e=>(aB.dL R7 e).1);refine aO (i:=13) (d:=some 42) rfl rfl rfl (.tmp 38) (.tmp 41) 106 106 rfl rfl _ _ _ _ (by simp[Act.eval]) (by simp[Act.eval]) Rq Zk (fun hHeld=>?_) AllReadyH.nil;simp only[Act.put,List.setIfInBounds_toArray,List.set_cons_zero,List.set_cons_succ];refine tkY 14 3 hHeld ?_;refine wpAnyH_done (by kernel_rfl) ?_ _;have HO8:=au (oP R8 (lo':=w.heap.size+1) (by omega));have HB8:=au (aj HB4.out hHeld (by omega));have HR8:=au (OT HRg.out hHeld);obtain⟨a8,c8,rfl⟩:=aB.aY R8;have hs8:=hHeld.size;go_wp2
   go_roundw
   case rel=>exact⟨_,Sr,_,_,_,rfl,HR8.out,by show _≤_;have:=HC.out;simp;omega,HO8,HPn,HGn,HB8,by omega⟩
   case measure=>rw[HR8.out.left_eq,HRo.out.left_eq];exact Pq
theorem FV:∃i,Tryz.prog.info? 106=some i∧i.zero=some (.slice none 0 0)∧i.size=1∧i.bytes=24:=⟨Tryz.t106,by kernel_rfl,by kernel_rfl,by kernel_rfl,by kernel_rfl⟩
def lK (w0:World) (lo:Nat) (w:World) (v:Value) (l:List (List aD)):Prop:=
 ∃xs,w.ownsRow lo 106 1 v l.length xs∧∀(i:Nat) a,l[i]?=some a→∃u,bq.sl bf w0 u a∧xs[i]?=some u
theorem lK.nil (w0:World) (lo:Nat) (w:World):lK w0 lo w (.slice none 0 0) []:=⟨[],World.ownsRow_nil w _ _ _,fun i a h=>by simp at h⟩
theorem lK.slice {w0 w:World} {lo:Nat} {v:Value} {l:List (List aD)} (h:lK w0 lo w v l):∃a cap,v=.slice a l.length cap:=by
 obtain⟨xs,ho,_⟩:=h;rcases ho.2 with⟨rfl,e⟩|⟨g,cap,cur,rfl,_⟩;·exact⟨none,0,by rw[e]⟩
 exact⟨_,cap,rfl⟩
theorem lK.lo {w0 w:World} {lo:Nat} {v:Value} {l:List (List aD)} (h:lK w0 lo w v l):∀k,v.ownBlock=some k→lo≤k∧k<w.heap.size:=fun k e=>by obtain⟨xs,ho,_⟩:=h;exact ho.lt k e
theorem lK.later {w0 w w':World} {lo:Nat} {v:Value} {l:List (List aD)} (h:lK w0 lo w v l) (k:ak w w'):lK w0 lo w' v l:=by
 obtain⟨xs,ho,hx⟩:=h;refine⟨xs,⟨ho.1,?_⟩,hx⟩;rcases ho.2 with e|⟨g,cap,cur,rfl,hbg,hg,r⟩;·exact Or.inl e
 exact Or.inr ⟨g,cap,cur,rfl,hbg,by rw[k.block (Array.getElem?_eq_some_iff.1 hg).1];exact hg,r⟩
theorem lK.more {w0 w:World} {lo:Nat} {v:Value} {l:List (List aD)} (h:lK w0 lo w v l) (hs:lo≤w.heap.size) {u:Value} {a:List aD} (hc:bq.sl bf w0 u a) (hl:(l.length+1)*24≤140737488355328):
  ∃v' w',(Builtin.append_ #[103,103] 103 #[v,.slice (some ⟨w.heap.size,0,none⟩) 1 1]).run Tryz.prog (w.alloc (.cells #[u] 106))=.ok v' w'∧lK w0 lo w' v' (l++[a])∧(w.alloc (.cells #[u] 106)).grownBy w' v.ownBlock∧w.drawn≤w'.drawn:=by
 obtain⟨i,i1,i2,i3,i4⟩:=FV;obtain⟨xs,ho,hx⟩:=h;have hnews:∀j y,[u][j]?=some y→(w.alloc (.cells #[u] 106)).cell? ((⟨w.heap.size,0,none⟩:Addr).add j)=some y:=by intro j y hy;rw[Addr.add_lit,Nat.zero_add,cell_of_row _ w.heap.size j #[u] 106 (0,0) (heap_alloc_new w _)];simpa using hy
 obtain⟨v',w',hrun,r1,r2,r3,_⟩:=dZ (P:=Tryz.prog) (w.alloc (.cells #[u] 106)) lo 103 103 106 i _ 1 24 Tryz.underlying103 i1 i2 i3 i4 rfl (by omega) v l.length xs (ho.alloc _) ⟨w.heap.size,0,none⟩ 1 1 [u] (by rfl) hnews
  ((gZ).one (B:=bf) (w:=w0) ⟨u,rfl,hc⟩) (by simp only[maxLen];omega) hl (by simp;omega)
 refine⟨v',w',hrun,⟨xs++[u],by simpa using r1,fun j y hj=>?_⟩,r2,r3⟩;have hxl:xs.length=l.length*1:=ho.1
 by_cases hjl:j<l.length
 ·rw[List.getElem?_append_left hjl] at hj;obtain⟨d,d1,d2⟩:=hx j y hj;exact⟨d,d1,by rw[List.getElem?_append_left (by omega)];exact d2⟩
 rw[List.getElem?_append_right (by omega)] at hj;have hj':j=l.length:=by have:=(List.getElem?_eq_some_iff.1 hj).1;simp at this;omega
 subst hj';simp at hj;subst hj;exact⟨u,hc,by rw[List.getElem?_append_right (by omega),hxl];simp⟩
theorem lK.sl {w0 w:World} {lo:Nat} {v:Value} {l:List (List aD)} (h:lK w0 lo w v l) (hb:Below w0.heap.size w0 w) (hl:l.length≤8796093022208):gZ.sl bf w v l:=by
 obtain⟨xs,ho,hx⟩:=h;rcases ho.2 with⟨rfl,e⟩|⟨g,cap,cur,rfl,hbg,hg,hnc,_⟩;·have:l=[]:=List.eq_nil_of_length_eq_zero e;subst this;exact gZ.eH _ _ _ _
 refine⟨⟨hl,hnc⟩,_,cap,rfl,fun _=>⟨g,0,rfl,trivial,(Array.getElem?_eq_some_iff.1 hg).1,fun i x hi=>?_⟩⟩;obtain⟨u,c1,c2⟩:=hx i x hi;refine⟨[u],⟨u,rfl,aB.aJ c1 hb⟩,fun j y hy=>?_⟩;cases j with
 |succ j=>simp at hy
 |zero=>
  simp at hy;subst hy;have:=ho.cells (g:=g) rfl i u c2;rw[Addr.add_lit] at this;show w.cell? ⟨g,0+i*1+0,none⟩=_;rw[Nat.mul_one,Nat.add_zero];exact this
theorem qg {w:World} {b off n cap:Nat} {l:List (List aD)} (h:gZ.sl bf w (.slice (some ⟨b,off,none⟩) n cap) l) (k:Nat) (hk:k<l.length):gZ.sl bf w (.slice (some ⟨b,off+k,none⟩) (l.length-k) (cap-k)) (l.drop k):=by obtain⟨h0,a',cap',e,h1⟩:=h;simp only[Value.slice.injEq] at e;obtain⟨rfl,rfl,rfl⟩:=e;obtain⟨b',off',e,hB,hb,hcl⟩:=h1 (by intro e;rw[e] at hk;simp at hk);simp only[Option.some.injEq,Addr.mk.injEq] at e;obtain⟨rfl,rfl,_⟩:=e;have h01:=h0.1;have h02:l.length≤cap:=h0.2;refine⟨⟨by rw[List.length_drop];omega,by show l.length-k≤cap-k;omega⟩,_,cap-k,by rw[List.length_drop],fun _=>⟨b,_,rfl,hB,hb,fun i y hi=>?_⟩⟩;rw[List.getElem?_drop] at hi;obtain⟨d,d1,d2⟩:=hcl (k+i) y hi;refine⟨d,d1,fun j u hu=>?_⟩;have:=d2 j u hu;rw[show off+(k+i)*(slK bq).size+j=off+k+i*(slK bq).size+j by show off+(k+i)*1+j=off+k+i*1+j;omega] at this;exact this
theorem LU {w:World} {a:Option Addr} {n cap:Nat} {l:List (List aD)} (h:gZ.sl bf w (.slice a n cap) l) (k:Nat) (hk:k≤l.length):gZ.sl bf w (.slice a k cap) (l.take k):=by
 obtain⟨⟨h0,h1⟩,a',cap',e,h2⟩:=h;simp only[Value.slice.injEq] at e;obtain⟨rfl,rfl,rfl⟩:=e;have hl:(l.take k).length=k:=by rw[List.length_take];omega
 have h1':l.length≤cap:=h1;refine⟨⟨by omega,by show k≤cap;omega⟩,a,cap,by rw[hl],fun hne=>?_⟩;obtain⟨b,off,e,hB,hb,hc⟩:=h2 (by intro e;rw[e] at hne;simp at hne);refine⟨b,off,e,hB,hb,fun i x hx=>hc i x ?_⟩;rw[List.getElem?_take] at hx;split at hx;·exact hx
 cases hx
def xY (L:List (List aD)) (w:World) (e:Ending) (w':World):Prop:=
 ∃v' R,e=.returned v'∧gZ.sl bf w' v' R∧(R.Pairwise fun a b=>gM a b<0)∧(∀x,x∈R↔x∈L)∧R.length≤L.length∧Below w.heap.size w w'
theorem vD (L:List (List aD)) (v:Value) (w:World) (h:L.length<2) (hv:gZ.sl bf w v L):Calls Tryz.prog 80 #[v] w (xY L w):=by
 obtain⟨a,cap,rfl⟩:=aB.slice hv;have hl:(L.length:Int)<2:=by omega
 have HV:=au hv;clear hv
 go_enter Tryz.func80,Tryz.ntmps80
 go_wp2;go_ret;refine⟨_,L,rfl,HV.out,?_,fun x=>Iff.rfl,Nat.le_refl _,(ak.refl w).below⟩
 match L,h with
 |[],_=>exact List.Pairwise.nil
 |[x],_=>exact List.pairwise_singleton _ _
theorem JC (n:Nat) (ih:∀(L:List (List aD)) (v:Value) (w:World),L.length≤n→L.length≤1000000→gZ.sl bf w v L→Calls Tryz.prog 80 #[v] w (xY L w)) (L:List (List aD)) (v:Value) (w:World) (hn:L.length≤n+1) (hM:L.length≤1000000) (h:2≤L.length) (hv:gZ.sl bf w v L):Calls Tryz.prog 80 #[v] w (xY L w):=by
 obtain⟨a,cap,rfl⟩:=aB.slice hv;have hlc:L.length≤cap:=hv.1.2;obtain⟨b,off,_,rfl,hb,_,_⟩:=aB.bO hv (i:=0) (List.getElem?_eq_getElem (by omega));obtain⟨m,hm⟩:∃m,m=L.length/2:=⟨_,rfl⟩;have h1:=LU hv m (by omega);have h2:=qg hv m (by omega);have em:(L.length:Int)/2=(m:Int):=by omega
 have hml:m≤L.length:=by omega
 have hmc:m≤cap:=by omega
 have hge:¬((L.length:Int)<2):=by omega
 have hw:IntKind.i64.wrap (m:Int)=(m:Int):=by simp[IntKind.wrap,IntKind.bits,IntKind.signed];omega
 have Zl:(m:Int)≤(L.length:Int):=by omega
 have Zm:(m:Int)≤(cap:Int):=by omega
 have hne:¬(cap=m):=by omega
 have H1:Hid (∀x,Below w.heap.size w x→Calls Tryz.prog 80 #[.slice (some ⟨b,off,none⟩) m cap] x (xY (L.take m) x)):=fun x hx=>ih _ _ x (by rw[List.length_take];omega) (by rw[List.length_take];omega) (aB.aJ h1 hx);have H2:Hid (∀x,Below w.heap.size w x→Calls Tryz.prog 80 #[.slice (some ⟨b,off+m,none⟩) (L.length-m) (cap-m)] x (xY (L.drop m) x)):=fun x hx=>ih _ _ x (by rw[List.length_drop];omega) (by rw[List.length_drop];omega) (aB.aJ h2 hx);clear hv h1 h2 hm ih
 go_enter Tryz.func80,Tryz.ntmps80
 go_wp2;refine wp_region_held_drew (S:=fun w'=>Below w.heap.size w w') (by kernel_rfl) (ak.refl w).drew.below (fun hHeld=>?_);refine tkY 0 12 hHeld ?_;refine tkY 1 13 hHeld ?_;refine tkY 2 14 hHeld ?_;refine tkY 3 15 hHeld ?_;refine tkY 4 16 hHeld ?_;refine tkY 6 18 hHeld ?_;refine tkY 7 19 hHeld ?_;refine tkY 8 20 hHeld ?_;refine tkY 9 21 hHeld ?_;refine tkY 10 22 hHeld ?_;refine tkC 5 fun K hK=>?_;go_simp;refine(H1.out _ hHeld).mono ?_;rintro e y1 ⟨v1,R1,rfl,hS1,hP1,hM1,hL1,hB1⟩;dsimp only;obtain⟨a1,c1,rfl⟩:=aB.slice hS1;refine hK.out _ _ (aj hHeld hB1 hHeld.size) (fun hHeld=>?_);clear hK K;refine tkC 11 fun K hK=>?_;go_simp;refine(H2.out _ hHeld).mono ?_;rintro e y2 ⟨v2,R2,rfl,hS2,hP2,hM2,hL2,hB2⟩;dsimp only;obtain⟨a2,c2,rfl⟩:=aB.slice hS2;refine hK.out _ _ (aj hHeld hB2 hHeld.size) (fun hHeld=>?_);clear hK K;refine tkY 12 3 hHeld ?_;refine tkY 13 4 hHeld ?_;refine wpAnyH_done (by kernel_rfl) ?_ _;have HB2:Hid (Below w.heap.size w y2):=hHeld;have HS1:=au (aB.aJ hS1 hB2);have HS2:=au hS2;have HM1:=au hM1;have HM2:=au hM2;have hRL:R1.length+R2.length≤L.length:=by rw[List.length_take] at hL1;rw[List.length_drop] at hL2;omega
 have Zn:=au (Mrg.start hP1 hP2);clear hHeld hB1 hB2 hS1 hS2 hP1 hP2 hM1 hM2 hL1 hL2 H1 H2 hge hw Zl Zm hne em hml hmc hlc hb;go_wp2
 go_loopg [3,4,5] (R1.length+R2.length) (fun g s3 s4 s5 wr=>∃(aa:Option Addr) (na ac:Nat) (ba:Option Addr) (nb bc:Nat) (oa:Option Addr) (on oc:Nat) (A B OO:List (List aD)),s3=.slice aa na ac∧s4=.slice ba nb bc∧s5=.slice oa on oc∧Hid (na=A.length)∧Hid (nb=B.length)∧g=na+nb∧
  Hid (gZ.sl bf y2 (.slice aa na ac) A)∧Hid (gZ.sl bf y2 (.slice ba nb bc) B)∧Hid (lK y2 y2.heap.size wr (.slice oa on oc) OO)∧Hid (Mrg gM (R1++R2) OO A B)∧Hid (OO.length+g≤R1.length+R2.length)∧Hid (Below y2.heap.size y2 wr))
 case atStart=>exact⟨a1,_,c1,a2,_,c2,none,0,0,R1,R2,[],rfl,rfl,rfl,rfl,rfl,rfl,HS1.out,HS2.out,lK.nil _ _ _,Zn.out,by show _≤_;simp,(ak.refl _).below⟩
 obtain⟨aa,na,ac,ba,nb,bc,oa,on,oc,A,B,OO,rfl,rfl,rfl,HNA,HNB,hg,HVA,HVB,HRO,HMg,HNO,HB⟩:=hrel;have HON:Hid (on=OO.length):=by obtain⟨_,_,e⟩:=lK.slice HRO.out;simp only[Value.slice.injEq] at e;exact e.2.1
 have HG:=au hg;clear hg
 by_cases ha:na=0
 ·by_cases hb:nb=0
  ·subst ha;subst hb;go_wp2;go_ret;have hA:=List.eq_nil_of_length_eq_zero HNA.out.symm;have hB:=List.eq_nil_of_length_eq_zero HNB.out.symm;subst hA;subst hB;obtain⟨hD1,hD2⟩:=HMg.out.done;have hNO:=HNO.out;refine⟨_,OO,rfl,lK.sl HRO.out HB.out (by omega),hD1,fun x=>?_,by omega,aj HB2.out HB.out HB2.out.size⟩;rw[hD2,List.mem_append,HM1.out,HM2.out,←List.mem_append,List.take_append_drop]
  subst ha;obtain⟨xb,B',rfl⟩:∃x l,B=x::l:=by
   have:=HNB.out;cases B with
   |nil=>simp at this;omega
   |cons x l=>exact⟨x,l,rfl⟩
  obtain⟨mb,fb,_,rfl,hmb,⟨wb,rfl,hub⟩,hcb⟩:=aB.bO HVB.out (i:=0) (x:=xb) (by simp);obtain⟨ub,vb,rfl⟩:=aB.slice hub;have HUB:=au hub;have Sz:Hid (∀y,Below y2.heap.size y2 y→y.cell? ⟨mb,fb,none⟩=some (.slice ub xb.length vb)):=fun y hy=>by rw[hy.cell (p:=⟨mb,fb,none⟩) hmb];simpa[slK] using hcb 0 _ rfl
  clear hub hcb;have hb1:(1:Int)≤(nb:Int):=by omega
  have hb0:(0:Int)<(nb:Int):=by omega
  have hbn:0<nb:=by omega
  have hbd:decide (0<nb)=true:=by simp;omega
  have hbe:((nb:Int)==0)=false:=by simp;omega
  obtain⟨ba',UO⟩:∃z,(if bc=1 then some (⟨mb,fb,none⟩:Addr) else some ⟨mb,fb+1,none⟩)=z:=⟨_,rfl⟩;have HTB:Hid (gZ.sl bf y2 (.slice ba' (nb-1) (bc-1)) B'):=by
   have e:nb-1=B'.length:=by have:=HNB.out;simp at this;omega
   rw[←UO,e]
   by_cases h0:B'.length=0
   ·obtain rfl:=List.eq_nil_of_length_eq_zero h0;exact gZ.eH _ _ _ _
   have hcap:nb≤bc:=HVB.out.1.2;rw[if_neg (by omega)];exact qg HVB.out 1 (by simp;omega)
  have HFx:Hid (∀z∈A,gM xb z≤0):=by intro z hz;have:=HNA.out;rw[List.eq_nil_of_length_eq_zero this.symm] at hz;simp at hz
  have HMk:=au HMg.out.swap;go_wp2;refine wp_region_held_drew (S:=fun w'=>ak wr w') (by kernel_rfl) (ak.refl wr).drew (fun hHeld=>?_);refine tkY 0 32 hHeld ?_;refine tkY 1 33 hHeld ?_;refine tkY 2 34 hHeld ?_;refine tkY 3 35 hHeld ?_;refine tkY 4 36 hHeld ?_;refine tkY 5 37 hHeld ?_;refine tkY 6 38 hHeld ?_;refine tkY 7 39 hHeld ?_;refine tkN 8 40 hHeld ?_;refine tkN 9 41 hHeld ?_;refine tkN 10 42 hHeld ?_;refine tkN 11 43 hHeld ?_;refine tkN 12 44 hHeld ?_;refine tkN 13 45 hHeld ?_;refine tkN 14 46 hHeld ?_;refine tkN 15 47 hHeld ?_;refine tkY 16 48 hHeld ?_;refine tkY 17 49 hHeld ?_;refine wpAnyH_done (by kernel_rfl) ?_ _;obtain⟨wz,hwz⟩:∃z,z=wr.drew:=⟨_,rfl⟩;rw[←hwz];have HZ:Hid (ak wr wz):=by rw[hwz];exact(ak.refl wr).drew
  clear hHeld hwz;have HCB:Hid (∀y,ak wz y→y.cell? ⟨mb,fb,none⟩=some (.slice ub xb.length vb)):=fun y hy=>Sz.out y (aj HB.out (HZ.out.trans hy).below HB.out.size);go_wp2;refine wp_region_held_drew (S:=fun w'=>ak wz w') (by kernel_rfl) (ak.refl wz).drew (fun hHeld=>?_);refine tkY 0 55 hHeld ?_;refine tkY 1 56 hHeld ?_;refine tkY 2 57 hHeld ?_ rfl fun w hSw=>by have qb:=HCB.out _ hSw;go_simp;try with_reducible rfl
  refine tkY 3 58 hHeld ?_;refine tkY 4 59 hHeld ?_;refine tkY 5 6 hHeld ?_;refine tkY 6 4 hHeld ?_;refine wpAnyH_done (by kernel_rfl) ?_ _;obtain⟨wx,hwx⟩:∃z,z=wz.drew:=⟨_,rfl⟩;rw[←hwx];have HX:=au (HZ.out.trans (by rw[hwx];exact(ak.refl wz).drew:ak wz wx));clear hHeld hwx HZ;rcases List.eq_nil_or_concat OO with eO|⟨O',z,eO⟩
  ·subst eO;obtain rfl:on=0:=HON.out;obtain⟨v',w7,hrun,hO7,hg7,hd7⟩:=lK.more (HRO.out.later HX.out) (Nat.le_trans HB.out.size HX.out.size) HUB.out (by simp);have HO7:=au hO7;have HM7:=au (HMk.out.next bF HFx.out (fun z h=>by simp at h));have HB7:Hid (Below y2.heap.size y2 w7):=(aj HB.out ((HX.out.trans ((ak.refl wx).alloc _)).below) HB.out.size).grown hg7 (by have:=HB.out.size;have:=HX.out.size;simp;omega) (fun k e=>(HRO.out.lo k e).1);obtain⟨oa7,on7,oc7,rfl⟩:∃a n c,v'=.slice a n c:=by obtain⟨a,c,e⟩:=lK.slice hO7;exact⟨a,_,c,e⟩
   have HRn:=au hrun;clear hrun hO7 hg7 hd7
   go_wp2_with (at_builtin;refine wpList_append_run rfl (.tmp 73) (.tmp 75) 103 rfl _ _ _ _ rfl rfl HRn.out ?_)
   go_roundg (nb-1)
   case measure=>have:=HG.out;omega
   case rel=>exact⟨_,_,_,ba',nb-1,bc-1,_,_,_,_,B',_,rfl,rfl,rfl,HNA,by show _=_;have:=HNB.out;simp at this;omega,by have:=HG.out;omega,HVA,HTB,HO7,au HM7.out.swap,by show _≤_;have:=HNO.out;have:=HG.out;simp only[List.length_append,List.length_cons,List.length_nil] at*;omega,HB7⟩
  rw[List.concat_eq_append] at eO;subst eO;have hon:on=O'.length+1:=by have:=HON.out;simpa using this
  subst hon;have hSO:=lK.sl (HRO.out.later HX.out) (aj HB.out HX.out.below HB.out.size) (by have:=HNO.out;simp at this⊢;omega);obtain⟨b6,o6,_,rfl,hb6,⟨zu,rfl,hzu⟩,hc6⟩:=aB.bO hSO (i:=O'.length) (x:=z) (by simp);have d6:wx.cell? ⟨b6,o6+O'.length,none⟩=some zu:=by simpa[slK] using hc6 0 _ rfl
  have HLB:=au (mF zu (.slice ub xb.length vb) z xb wx hzu (aB.aJ HUB.out (aj HB.out HX.out.below HB.out.size)));obtain⟨za,zc,rfl⟩:=aB.slice hzu;have hpos:((O'.length+1:Nat):Int)≠0:=by omega
  have OV:(((O'.length+1:Nat):Int)==0)=false:=by simp;omega
  have hsub:((O'.length+1:Nat):Int)-1=(O'.length:Int):=by omega
  have hON:=HNO.out;have hsb:IntKind.i64.wrap (O'.length:Int)=(O'.length:Int):=by simp at hON;simp[IntKind.wrap,IntKind.bits,IntKind.signed];omega
  clear hc6 hzu hSO hON;cases hq:gF z xb
  ·rw[hq] at HLB;have HM7:=au (HMk.out.skip bF (z:=z) (by simp) (by unfold gF at hq;simpa using hq));clear hq
   go_wp2_with fail
   refine HLB.out.mono ?_;rintro e w4 ⟨rfl,hL4⟩;have HO7:=au (HRO.out.later (HX.out.trans hL4));have HB7:Hid (Below y2.heap.size y2 w4):=aj HB.out (HX.out.trans hL4).below HB.out.size;clear hL4 HLB;go_wp2
   go_roundg (nb-1)
   case measure=>have:=HG.out;omega
   case rel=>exact⟨_,_,_,ba',nb-1,bc-1,_,_,_,_,B',_,rfl,rfl,rfl,HNA,by show _=_;have:=HNB.out;simp at this;omega,by have:=HG.out;omega,HVA,HTB,HO7,au HM7.out.swap,by show _≤_;have:=HNO.out;have:=HG.out;simp only[List.length_append,List.length_cons,List.length_nil] at*;omega,HB7⟩
  rw[hq] at HLB;have HM7:=au (HMk.out.next bF HFx.out (fun z' h=>by simp at h;subst h;unfold gF at hq;simpa using hq));clear hq
  go_wp2_with fail
  refine HLB.out.mono ?_;rintro e w4 ⟨rfl,hL4⟩;have HX4:=au (HX.out.trans hL4);clear hL4 HLB;obtain⟨v',w7,hrun,hO7,hg7,hd7⟩:=lK.more (HRO.out.later HX4.out) (Nat.le_trans HB.out.size HX4.out.size) HUB.out (by have:=HNO.out;simp at this⊢;omega);have HO7:=au hO7;have HB7:Hid (Below y2.heap.size y2 w7):=(aj HB.out ((HX4.out.trans ((ak.refl w4).alloc _)).below) HB.out.size).grown hg7 (by have:=HB.out.size;have:=HX4.out.size;simp;omega) (fun k e=>(HRO.out.lo k e).1);obtain⟨oa7,on7,oc7,rfl⟩:∃a n c,v'=.slice a n c:=by obtain⟨a,c,e⟩:=lK.slice hO7;exact⟨a,_,c,e⟩
  have HRn:=au hrun;clear hrun hO7 hg7 hd7
  go_wp2_with (at_builtin;refine wpList_append_run rfl (.tmp 73) (.tmp 75) 103 rfl _ _ _ _ rfl rfl HRn.out ?_)
  go_roundg (nb-1)
  case measure=>have:=HG.out;omega
  case rel=>exact⟨_,_,_,ba',nb-1,bc-1,_,_,_,_,B',_,rfl,rfl,rfl,HNA,by show _=_;have:=HNB.out;simp at this;omega,by have:=HG.out;omega,HVA,HTB,HO7,au HM7.out.swap,by show _≤_;have:=HNO.out;have:=HG.out;simp only[List.length_append,List.length_cons,List.length_nil] at*;omega,HB7⟩
 by_cases hb:nb=0
 ·subst hb;obtain⟨xa,A',rfl⟩:∃x l,A=x::l:=by
   have:=HNA.out;cases A with
   |nil=>simp at this;omega
   |cons x l=>exact⟨x,l,rfl⟩
  obtain⟨ma,fa,_,rfl,hma,⟨wa,rfl,hua⟩,hca⟩:=aB.bO HVA.out (i:=0) (x:=xa) (by simp);obtain⟨ua,va,rfl⟩:=aB.slice hua;have HUA:=au hua;have SA:Hid (∀y,Below y2.heap.size y2 y→y.cell? ⟨ma,fa,none⟩=some (.slice ua xa.length va)):=fun y hy=>by rw[hy.cell (p:=⟨ma,fa,none⟩) hma];simpa[slK] using hca 0 _ rfl
  clear hua hca;have ha1:(1:Int)≤(na:Int):=by omega
  have ha0:(0:Int)<(na:Int):=by omega
  have han:0<na:=by omega
  have had:decide (0<na)=true:=by simp;omega
  have hae:((na:Int)==0)=false:=by simp;omega
  obtain⟨aa',UQ⟩:∃z,(if ac=1 then some (⟨ma,fa,none⟩:Addr) else some ⟨ma,fa+1,none⟩)=z:=⟨_,rfl⟩;have HTA:Hid (gZ.sl bf y2 (.slice aa' (na-1) (ac-1)) A'):=by
   have e:na-1=A'.length:=by have:=HNA.out;simp at this;omega
   rw[←UQ,e]
   by_cases h0:A'.length=0
   ·obtain rfl:=List.eq_nil_of_length_eq_zero h0;exact gZ.eH _ _ _ _
   have hcap:na≤ac:=HVA.out.1.2;rw[if_neg (by omega)];exact qg HVA.out 1 (by simp;omega)
  have HFx:Hid (∀z∈B,gM xa z≤0):=by intro z hz;have:=HNB.out;rw[List.eq_nil_of_length_eq_zero this.symm] at hz;simp at hz
  have HMk:=au HMg.out;go_wp2;refine wp_region_held_drew (S:=fun w'=>ak wr w') (by kernel_rfl) (ak.refl wr).drew (fun hHeld=>?_);refine tkY 0 32 hHeld ?_;refine tkY 1 33 hHeld ?_;refine tkY 2 34 hHeld ?_;refine tkY 3 35 hHeld ?_;refine tkN 4 36 hHeld ?_;refine tkN 5 37 hHeld ?_;refine tkN 6 38 hHeld ?_;refine tkN 7 39 hHeld ?_;refine tkN 8 40 hHeld ?_;refine tkN 9 41 hHeld ?_;refine tkN 10 42 hHeld ?_;refine tkN 11 43 hHeld ?_;refine tkN 12 44 hHeld ?_;refine tkN 13 45 hHeld ?_;refine tkN 14 46 hHeld ?_;refine tkN 15 47 hHeld ?_;refine tkN 16 48 hHeld ?_;refine tkY 17 49 hHeld ?_;refine wpAnyH_done (by kernel_rfl) ?_ _;obtain⟨wz,hwz⟩:∃z,z=wr.drew:=⟨_,rfl⟩;rw[←hwz];have HZ:Hid (ak wr wz):=by rw[hwz];exact(ak.refl wr).drew
  clear hHeld hwz;have HCA:Hid (∀y,ak wz y→y.cell? ⟨ma,fa,none⟩=some (.slice ua xa.length va)):=fun y hy=>SA.out y (aj HB.out (HZ.out.trans hy).below HB.out.size);go_wp2;refine wp_region_held_drew (S:=fun w'=>ak wz w') (by kernel_rfl) (ak.refl wz).drew (fun hHeld=>?_);refine tkY 0 50 hHeld ?_;refine tkY 1 51 hHeld ?_;refine tkY 2 52 hHeld ?_ rfl fun w hSw=>by have qa:=HCA.out _ hSw;go_simp;try with_reducible rfl
  refine tkY 3 53 hHeld ?_;refine tkY 4 54 hHeld ?_;refine tkY 5 6 hHeld ?_;refine tkY 6 3 hHeld ?_;refine wpAnyH_done (by kernel_rfl) ?_ _;obtain⟨wx,hwx⟩:∃z,z=wz.drew:=⟨_,rfl⟩;rw[←hwx];have HX:=au (HZ.out.trans (by rw[hwx];exact(ak.refl wz).drew:ak wz wx));clear hHeld hwx HZ;rcases List.eq_nil_or_concat OO with eO|⟨O',z,eO⟩
  ·subst eO;obtain rfl:on=0:=HON.out;obtain⟨v',w7,hrun,hO7,hg7,hd7⟩:=lK.more (HRO.out.later HX.out) (Nat.le_trans HB.out.size HX.out.size) HUA.out (by simp);have HO7:=au hO7;have HM7:=au (HMk.out.next bF HFx.out (fun z h=>by simp at h));have HB7:Hid (Below y2.heap.size y2 w7):=(aj HB.out ((HX.out.trans ((ak.refl wx).alloc _)).below) HB.out.size).grown hg7 (by have:=HB.out.size;have:=HX.out.size;simp;omega) (fun k e=>(HRO.out.lo k e).1);obtain⟨oa7,on7,oc7,rfl⟩:∃a n c,v'=.slice a n c:=by obtain⟨a,c,e⟩:=lK.slice hO7;exact⟨a,_,c,e⟩
   have HRn:=au hrun;clear hrun hO7 hg7 hd7
   go_wp2_with (at_builtin;refine wpList_append_run rfl (.tmp 73) (.tmp 75) 103 rfl _ _ _ _ rfl rfl HRn.out ?_)
   go_roundg (na-1)
   case measure=>have:=HG.out;omega
   case rel=>exact⟨aa',na-1,ac-1,_,_,_,_,_,_,A',_,_,rfl,rfl,rfl,by show _=_;have:=HNA.out;simp at this;omega,HNB,by have:=HG.out;omega,HTA,HVB,HO7,au HM7.out,by show _≤_;have:=HNO.out;have:=HG.out;simp only[List.length_append,List.length_cons,List.length_nil] at*;omega,HB7⟩
  rw[List.concat_eq_append] at eO;subst eO;have hon:on=O'.length+1:=by have:=HON.out;simpa using this
  subst hon;have hSO:=lK.sl (HRO.out.later HX.out) (aj HB.out HX.out.below HB.out.size) (by have:=HNO.out;simp at this⊢;omega);obtain⟨b6,o6,_,rfl,hb6,⟨zu,rfl,hzu⟩,hc6⟩:=aB.bO hSO (i:=O'.length) (x:=z) (by simp);have d6:wx.cell? ⟨b6,o6+O'.length,none⟩=some zu:=by simpa[slK] using hc6 0 _ rfl
  have HLB:=au (mF zu (.slice ua xa.length va) z xa wx hzu (aB.aJ HUA.out (aj HB.out HX.out.below HB.out.size)));obtain⟨za,zc,rfl⟩:=aB.slice hzu;have hpos:((O'.length+1:Nat):Int)≠0:=by omega
  have OV:(((O'.length+1:Nat):Int)==0)=false:=by simp;omega
  have hsub:((O'.length+1:Nat):Int)-1=(O'.length:Int):=by omega
  have hON:=HNO.out;have hsb:IntKind.i64.wrap (O'.length:Int)=(O'.length:Int):=by simp at hON;simp[IntKind.wrap,IntKind.bits,IntKind.signed];omega
  clear hc6 hzu hSO hON;cases hq:gF z xa
  ·rw[hq] at HLB;have HM7:=au (HMk.out.skip bF (z:=z) (by simp) (by unfold gF at hq;simpa using hq));clear hq
   go_wp2_with fail
   refine HLB.out.mono ?_;rintro e w4 ⟨rfl,hL4⟩;have HO7:=au (HRO.out.later (HX.out.trans hL4));have HB7:Hid (Below y2.heap.size y2 w4):=aj HB.out (HX.out.trans hL4).below HB.out.size;clear hL4 HLB;go_wp2
   go_roundg (na-1)
   case measure=>have:=HG.out;omega
   case rel=>exact⟨aa',na-1,ac-1,_,_,_,_,_,_,A',_,_,rfl,rfl,rfl,by show _=_;have:=HNA.out;simp at this;omega,HNB,by have:=HG.out;omega,HTA,HVB,HO7,au HM7.out,by show _≤_;have:=HNO.out;have:=HG.out;simp only[List.length_append,List.length_cons,List.length_nil] at*;omega,HB7⟩
  rw[hq] at HLB;have HM7:=au (HMk.out.next bF HFx.out (fun z' h=>by simp at h;subst h;unfold gF at hq;simpa using hq));clear hq
  go_wp2_with fail
  refine HLB.out.mono ?_;rintro e w4 ⟨rfl,hL4⟩;have HX4:=au (HX.out.trans hL4);clear hL4 HLB;obtain⟨v',w7,hrun,hO7,hg7,hd7⟩:=lK.more (HRO.out.later HX4.out) (Nat.le_trans HB.out.size HX4.out.size) HUA.out (by have:=HNO.out;simp at this⊢;omega);have HO7:=au hO7;have HB7:Hid (Below y2.heap.size y2 w7):=(aj HB.out ((HX4.out.trans ((ak.refl w4).alloc _)).below) HB.out.size).grown hg7 (by have:=HB.out.size;have:=HX4.out.size;simp;omega) (fun k e=>(HRO.out.lo k e).1);obtain⟨oa7,on7,oc7,rfl⟩:∃a n c,v'=.slice a n c:=by obtain⟨a,c,e⟩:=lK.slice hO7;exact⟨a,_,c,e⟩
  have HRn:=au hrun;clear hrun hO7 hg7 hd7
  go_wp2_with (at_builtin;refine wpList_append_run rfl (.tmp 73) (.tmp 75) 103 rfl _ _ _ _ rfl rfl HRn.out ?_)
  go_roundg (na-1)
  case measure=>have:=HG.out;omega
  case rel=>exact⟨aa',na-1,ac-1,_,_,_,_,_,_,A',_,_,rfl,rfl,rfl,by show _=_;have:=HNA.out;simp at this;omega,HNB,by have:=HG.out;omega,HTA,HVB,HO7,au HM7.out,by show _≤_;have:=HNO.out;have:=HG.out;simp only[List.length_append,List.length_cons,List.length_nil] at*;omega,HB7⟩
 skip
 obtain⟨xa,A',rfl⟩:∃x l,A=x::l:=by
  have:=HNA.out;cases A with
  |nil=>simp at this;omega
  |cons x l=>exact⟨x,l,rfl⟩
 obtain⟨ma,fa,_,rfl,hma,⟨wa,rfl,hua⟩,hca⟩:=aB.bO HVA.out (i:=0) (x:=xa) (by simp);obtain⟨ua,va,rfl⟩:=aB.slice hua;have HUA:=au hua;have SA:Hid (∀y,Below y2.heap.size y2 y→y.cell? ⟨ma,fa,none⟩=some (.slice ua xa.length va)):=fun y hy=>by rw[hy.cell (p:=⟨ma,fa,none⟩) hma];simpa[slK] using hca 0 _ rfl
 clear hua hca;have ha1:(1:Int)≤(na:Int):=by omega
 have ha0:(0:Int)<(na:Int):=by omega
 have han:0<na:=by omega
 have had:decide (0<na)=true:=by simp;omega
 have hae:((na:Int)==0)=false:=by simp;omega
 obtain⟨aa',UQ⟩:∃z,(if ac=1 then some (⟨ma,fa,none⟩:Addr) else some ⟨ma,fa+1,none⟩)=z:=⟨_,rfl⟩;have HTA:Hid (gZ.sl bf y2 (.slice aa' (na-1) (ac-1)) A'):=by
  have e:na-1=A'.length:=by have:=HNA.out;simp at this;omega
  rw[←UQ,e]
  by_cases h0:A'.length=0
  ·obtain rfl:=List.eq_nil_of_length_eq_zero h0;exact gZ.eH _ _ _ _
  have hcap:na≤ac:=HVA.out.1.2;rw[if_neg (by omega)];exact qg HVA.out 1 (by simp;omega)
 obtain⟨xb,B',rfl⟩:∃x l,B=x::l:=by
  have:=HNB.out;cases B with
  |nil=>simp at this;omega
  |cons x l=>exact⟨x,l,rfl⟩
 obtain⟨mb,fb,_,rfl,hmb,⟨wb,rfl,hub⟩,hcb⟩:=aB.bO HVB.out (i:=0) (x:=xb) (by simp);obtain⟨ub,vb,rfl⟩:=aB.slice hub;have HUB:=au hub;have Sz:Hid (∀y,Below y2.heap.size y2 y→y.cell? ⟨mb,fb,none⟩=some (.slice ub xb.length vb)):=fun y hy=>by rw[hy.cell (p:=⟨mb,fb,none⟩) hmb];simpa[slK] using hcb 0 _ rfl
 clear hub hcb;have hb1:(1:Int)≤(nb:Int):=by omega
 have hb0:(0:Int)<(nb:Int):=by omega
 have hbn:0<nb:=by omega
 have hbd:decide (0<nb)=true:=by simp;omega
 have hbe:((nb:Int)==0)=false:=by simp;omega
 obtain⟨ba',UO⟩:∃z,(if bc=1 then some (⟨mb,fb,none⟩:Addr) else some ⟨mb,fb+1,none⟩)=z:=⟨_,rfl⟩;have HTB:Hid (gZ.sl bf y2 (.slice ba' (nb-1) (bc-1)) B'):=by
  have e:nb-1=B'.length:=by have:=HNB.out;simp at this;omega
  rw[←UO,e]
  by_cases h0:B'.length=0
  ·obtain rfl:=List.eq_nil_of_length_eq_zero h0;exact gZ.eH _ _ _ _
  have hcap:nb≤bc:=HVB.out.1.2;rw[if_neg (by omega)];exact qg HVB.out 1 (by simp;omega)
 have WY:Hid (∀y,ak wr y→Calls Tryz.prog 107 #[.slice ub xb.length vb,.slice ua xa.length va] y fun e w'=>e=.returned (.bool (gF xb xa))∧ak y w'):=fun y hy=>mF _ _ xb xa y (aB.aJ HUB.out (aj HB.out hy.below HB.out.size)) (aB.aJ HUA.out (aj HB.out hy.below HB.out.size));have UR:Hid (∀y,ak wr y→y.cell? ⟨ma,fa,none⟩=some (.slice ua xa.length va)∧y.cell? ⟨mb,fb,none⟩=some (.slice ub xb.length vb)):=fun y hy=>⟨SA.out y (aj HB.out hy.below HB.out.size),Sz.out y (aj HB.out hy.below HB.out.size)⟩;generalize hlb:gF xb xa=lb at*;have HLQ:=au hlb;clear hlb;go_wp2;refine wp_region_held_drew (S:=fun w'=>ak wr w') (by kernel_rfl) (ak.refl wr).drew (fun hHeld=>?_);refine tkY 0 32 hHeld ?_;refine tkY 1 33 hHeld ?_;refine tkY 2 34 hHeld ?_;refine tkY 3 35 hHeld ?_;refine tkY 4 36 hHeld ?_;refine tkY 5 37 hHeld ?_;refine tkY 6 38 hHeld ?_;refine tkY 7 39 hHeld ?_;refine tkY 8 40 hHeld ?_;refine tkY 9 41 hHeld ?_;refine tkY 10 42 hHeld ?_ rfl fun w hSw=>by obtain⟨qa,qb⟩:=UR.out _ hSw;go_simp;try with_reducible rfl
 refine tkY 11 43 hHeld ?_;refine tkY 12 44 hHeld ?_;refine tkY 13 45 hHeld ?_ rfl fun w hSw=>by obtain⟨qa,qb⟩:=UR.out _ hSw;go_simp;try with_reducible rfl
 refine tkC 14 fun K hK=>?_;go_simp;refine(WY.out _ hHeld).mono ?_;rintro e wz ⟨rfl,hLz⟩;dsimp only;refine hK.out _ _ (hHeld.trans hLz) (fun hHeld=>?_);clear hK K;refine tkY 15 47 hHeld ?_;refine tkY 16 48 hHeld ?_;refine tkY 17 49 hHeld ?_;refine wpAnyH_done (by kernel_rfl) ?_ _;have HZ:Hid (ak wr wz):=hHeld;clear hHeld hLz WY UR;have HCA:Hid (∀y,ak wz y→y.cell? ⟨ma,fa,none⟩=some (.slice ua xa.length va)):=fun y hy=>SA.out y (aj HB.out (HZ.out.trans hy).below HB.out.size);have HCB:Hid (∀y,ak wz y→y.cell? ⟨mb,fb,none⟩=some (.slice ub xb.length vb)):=fun y hy=>Sz.out y (aj HB.out (HZ.out.trans hy).below HB.out.size);cases lb
 ·have HFx:=au (HMg.out.first bF (by have:=HLQ.out;unfold gF at this;simpa using this));have HMk:=au HMg.out;go_wp2;refine wp_region_held_drew (S:=fun w'=>ak wz w') (by kernel_rfl) (ak.refl wz).drew (fun hHeld=>?_);refine tkY 0 50 hHeld ?_;refine tkY 1 51 hHeld ?_;refine tkY 2 52 hHeld ?_ rfl fun w hSw=>by have qa:=HCA.out _ hSw;go_simp;try with_reducible rfl
  refine tkY 3 53 hHeld ?_;refine tkY 4 54 hHeld ?_;refine tkY 5 6 hHeld ?_;refine tkY 6 3 hHeld ?_;refine wpAnyH_done (by kernel_rfl) ?_ _;obtain⟨wx,hwx⟩:∃z,z=wz.drew:=⟨_,rfl⟩;rw[←hwx];have HX:=au (HZ.out.trans (by rw[hwx];exact(ak.refl wz).drew:ak wz wx));clear hHeld hwx HZ;rcases List.eq_nil_or_concat OO with eO|⟨O',z,eO⟩
  ·subst eO;obtain rfl:on=0:=HON.out;obtain⟨v',w7,hrun,hO7,hg7,hd7⟩:=lK.more (HRO.out.later HX.out) (Nat.le_trans HB.out.size HX.out.size) HUA.out (by simp);have HO7:=au hO7;have HM7:=au (HMk.out.next bF HFx.out (fun z h=>by simp at h));have HB7:Hid (Below y2.heap.size y2 w7):=(aj HB.out ((HX.out.trans ((ak.refl wx).alloc _)).below) HB.out.size).grown hg7 (by have:=HB.out.size;have:=HX.out.size;simp;omega) (fun k e=>(HRO.out.lo k e).1);obtain⟨oa7,on7,oc7,rfl⟩:∃a n c,v'=.slice a n c:=by obtain⟨a,c,e⟩:=lK.slice hO7;exact⟨a,_,c,e⟩
   have HRn:=au hrun;clear hrun hO7 hg7 hd7
   go_wp2_with (at_builtin;refine wpList_append_run rfl (.tmp 73) (.tmp 75) 103 rfl _ _ _ _ rfl rfl HRn.out ?_)
   go_roundg (na+nb-1)
   case measure=>have:=HG.out;omega
   case rel=>exact⟨aa',na-1,ac-1,_,_,_,_,_,_,A',_,_,rfl,rfl,rfl,by show _=_;have:=HNA.out;simp at this;omega,HNB,by have:=HG.out;omega,HTA,HVB,HO7,au HM7.out,by show _≤_;have:=HNO.out;have:=HG.out;simp only[List.length_append,List.length_cons,List.length_nil] at*;omega,HB7⟩
  rw[List.concat_eq_append] at eO;subst eO;have hon:on=O'.length+1:=by have:=HON.out;simpa using this
  subst hon;have hSO:=lK.sl (HRO.out.later HX.out) (aj HB.out HX.out.below HB.out.size) (by have:=HNO.out;simp at this⊢;omega);obtain⟨b6,o6,_,rfl,hb6,⟨zu,rfl,hzu⟩,hc6⟩:=aB.bO hSO (i:=O'.length) (x:=z) (by simp);have d6:wx.cell? ⟨b6,o6+O'.length,none⟩=some zu:=by simpa[slK] using hc6 0 _ rfl
  have HLB:=au (mF zu (.slice ua xa.length va) z xa wx hzu (aB.aJ HUA.out (aj HB.out HX.out.below HB.out.size)));obtain⟨za,zc,rfl⟩:=aB.slice hzu;have hpos:((O'.length+1:Nat):Int)≠0:=by omega
  have OV:(((O'.length+1:Nat):Int)==0)=false:=by simp;omega
  have hsub:((O'.length+1:Nat):Int)-1=(O'.length:Int):=by omega
  have hON:=HNO.out;have hsb:IntKind.i64.wrap (O'.length:Int)=(O'.length:Int):=by simp at hON;simp[IntKind.wrap,IntKind.bits,IntKind.signed];omega
  clear hc6 hzu hSO hON;cases hq:gF z xa
  ·rw[hq] at HLB;have HM7:=au (HMk.out.skip bF (z:=z) (by simp) (by unfold gF at hq;simpa using hq));clear hq
   go_wp2_with fail
   refine HLB.out.mono ?_;rintro e w4 ⟨rfl,hL4⟩;have HO7:=au (HRO.out.later (HX.out.trans hL4));have HB7:Hid (Below y2.heap.size y2 w4):=aj HB.out (HX.out.trans hL4).below HB.out.size;clear hL4 HLB;go_wp2
   go_roundg (na+nb-1)
   case measure=>have:=HG.out;omega
   case rel=>exact⟨aa',na-1,ac-1,_,_,_,_,_,_,A',_,_,rfl,rfl,rfl,by show _=_;have:=HNA.out;simp at this;omega,HNB,by have:=HG.out;omega,HTA,HVB,HO7,au HM7.out,by show _≤_;have:=HNO.out;have:=HG.out;simp only[List.length_append,List.length_cons,List.length_nil] at*;omega,HB7⟩
  rw[hq] at HLB;have HM7:=au (HMk.out.next bF HFx.out (fun z' h=>by simp at h;subst h;unfold gF at hq;simpa using hq));clear hq
  go_wp2_with fail
  refine HLB.out.mono ?_;rintro e w4 ⟨rfl,hL4⟩;have HX4:=au (HX.out.trans hL4);clear hL4 HLB;obtain⟨v',w7,hrun,hO7,hg7,hd7⟩:=lK.more (HRO.out.later HX4.out) (Nat.le_trans HB.out.size HX4.out.size) HUA.out (by have:=HNO.out;simp at this⊢;omega);have HO7:=au hO7;have HB7:Hid (Below y2.heap.size y2 w7):=(aj HB.out ((HX4.out.trans ((ak.refl w4).alloc _)).below) HB.out.size).grown hg7 (by have:=HB.out.size;have:=HX4.out.size;simp;omega) (fun k e=>(HRO.out.lo k e).1);obtain⟨oa7,on7,oc7,rfl⟩:∃a n c,v'=.slice a n c:=by obtain⟨a,c,e⟩:=lK.slice hO7;exact⟨a,_,c,e⟩
  have HRn:=au hrun;clear hrun hO7 hg7 hd7
  go_wp2_with (at_builtin;refine wpList_append_run rfl (.tmp 73) (.tmp 75) 103 rfl _ _ _ _ rfl rfl HRn.out ?_)
  go_roundg (na+nb-1)
  case measure=>have:=HG.out;omega
  case rel=>exact⟨aa',na-1,ac-1,_,_,_,_,_,_,A',_,_,rfl,rfl,rfl,by show _=_;have:=HNA.out;simp at this;omega,HNB,by have:=HG.out;omega,HTA,HVB,HO7,au HM7.out,by show _≤_;have:=HNO.out;have:=HG.out;simp only[List.length_append,List.length_cons,List.length_nil] at*;omega,HB7⟩
 have HFx:Hid (∀z∈xa::A',gM xb z≤0):=HMg.out.swap.first bF (by have:=HLQ.out;unfold gF at this;have:=bF.swap xa xb;simp at*;omega)
 have HMk:=au HMg.out.swap;go_wp2;refine wp_region_held_drew (S:=fun w'=>ak wz w') (by kernel_rfl) (ak.refl wz).drew (fun hHeld=>?_);refine tkY 0 55 hHeld ?_;refine tkY 1 56 hHeld ?_;refine tkY 2 57 hHeld ?_ rfl fun w hSw=>by have qb:=HCB.out _ hSw;go_simp;try with_reducible rfl
 refine tkY 3 58 hHeld ?_;refine tkY 4 59 hHeld ?_;refine tkY 5 6 hHeld ?_;refine tkY 6 4 hHeld ?_;refine wpAnyH_done (by kernel_rfl) ?_ _;obtain⟨wx,hwx⟩:∃z,z=wz.drew:=⟨_,rfl⟩;rw[←hwx];have HX:=au (HZ.out.trans (by rw[hwx];exact(ak.refl wz).drew:ak wz wx));clear hHeld hwx HZ;rcases List.eq_nil_or_concat OO with eO|⟨O',z,eO⟩
 ·subst eO;obtain rfl:on=0:=HON.out;obtain⟨v',w7,hrun,hO7,hg7,hd7⟩:=lK.more (HRO.out.later HX.out) (Nat.le_trans HB.out.size HX.out.size) HUB.out (by simp);have HO7:=au hO7;have HM7:=au (HMk.out.next bF HFx.out (fun z h=>by simp at h));have HB7:Hid (Below y2.heap.size y2 w7):=(aj HB.out ((HX.out.trans ((ak.refl wx).alloc _)).below) HB.out.size).grown hg7 (by have:=HB.out.size;have:=HX.out.size;simp;omega) (fun k e=>(HRO.out.lo k e).1);obtain⟨oa7,on7,oc7,rfl⟩:∃a n c,v'=.slice a n c:=by obtain⟨a,c,e⟩:=lK.slice hO7;exact⟨a,_,c,e⟩
  have HRn:=au hrun;clear hrun hO7 hg7 hd7
  go_wp2_with (at_builtin;refine wpList_append_run rfl (.tmp 73) (.tmp 75) 103 rfl _ _ _ _ rfl rfl HRn.out ?_)
  go_roundg (na+nb-1)
  case measure=>have:=HG.out;omega
  case rel=>exact⟨_,_,_,ba',nb-1,bc-1,_,_,_,_,B',_,rfl,rfl,rfl,HNA,by show _=_;have:=HNB.out;simp at this;omega,by have:=HG.out;omega,HVA,HTB,HO7,au HM7.out.swap,by show _≤_;have:=HNO.out;have:=HG.out;simp only[List.length_append,List.length_cons,List.length_nil] at*;omega,HB7⟩
 rw[List.concat_eq_append] at eO;subst eO;have hon:on=O'.length+1:=by have:=HON.out;simpa using this
 subst hon;have hSO:=lK.sl (HRO.out.later HX.out) (aj HB.out HX.out.below HB.out.size) (by have:=HNO.out;simp at this⊢;omega);obtain⟨b6,o6,_,rfl,hb6,⟨zu,rfl,hzu⟩,hc6⟩:=aB.bO hSO (i:=O'.length) (x:=z) (by simp);have d6:wx.cell? ⟨b6,o6+O'.length,none⟩=some zu:=by simpa[slK] using hc6 0 _ rfl
 have HLB:=au (mF zu (.slice ub xb.length vb) z xb wx hzu (aB.aJ HUB.out (aj HB.out HX.out.below HB.out.size)));obtain⟨za,zc,rfl⟩:=aB.slice hzu;have hpos:((O'.length+1:Nat):Int)≠0:=by omega
 have OV:(((O'.length+1:Nat):Int)==0)=false:=by simp;omega
 have hsub:((O'.length+1:Nat):Int)-1=(O'.length:Int):=by omega
 have hON:=HNO.out;have hsb:IntKind.i64.wrap (O'.length:Int)=(O'.length:Int):=by simp at hON;simp[IntKind.wrap,IntKind.bits,IntKind.signed];omega
 clear hc6 hzu hSO hON;cases hq:gF z xb
 ·rw[hq] at HLB;have HM7:=au (HMk.out.skip bF (z:=z) (by simp) (by unfold gF at hq;simpa using hq));clear hq
  go_wp2_with fail
  refine HLB.out.mono ?_;rintro e w4 ⟨rfl,hL4⟩;have HO7:=au (HRO.out.later (HX.out.trans hL4));have HB7:Hid (Below y2.heap.size y2 w4):=aj HB.out (HX.out.trans hL4).below HB.out.size;clear hL4 HLB;go_wp2
  go_roundg (na+nb-1)
  case measure=>have:=HG.out;omega
  case rel=>exact⟨_,_,_,ba',nb-1,bc-1,_,_,_,_,B',_,rfl,rfl,rfl,HNA,by show _=_;have:=HNB.out;simp at this;omega,by have:=HG.out;omega,HVA,HTB,HO7,au HM7.out.swap,by show _≤_;have:=HNO.out;have:=HG.out;simp only[List.length_append,List.length_cons,List.length_nil] at*;omega,HB7⟩
 rw[hq] at HLB;have HM7:=au (HMk.out.next bF HFx.out (fun z' h=>by simp at h;subst h;unfold gF at hq;simpa using hq));clear hq
 go_wp2_with fail
 refine HLB.out.mono ?_;rintro e w4 ⟨rfl,hL4⟩;have HX4:=au (HX.out.trans hL4);clear hL4 HLB;obtain⟨v',w7,hrun,hO7,hg7,hd7⟩:=lK.more (HRO.out.later HX4.out) (Nat.le_trans HB.out.size HX4.out.size) HUB.out (by have:=HNO.out;simp at this⊢;omega);have HO7:=au hO7;have HB7:Hid (Below y2.heap.size y2 w7):=(aj HB.out ((HX4.out.trans ((ak.refl w4).alloc _)).below) HB.out.size).grown hg7 (by have:=HB.out.size;have:=HX4.out.size;simp;omega) (fun k e=>(HRO.out.lo k e).1);obtain⟨oa7,on7,oc7,rfl⟩:∃a n c,v'=.slice a n c:=by obtain⟨a,c,e⟩:=lK.slice hO7;exact⟨a,_,c,e⟩
 have HRn:=au hrun;clear hrun hO7 hg7 hd7
 go_wp2_with (at_builtin;refine wpList_append_run rfl (.tmp 73) (.tmp 75) 103 rfl _ _ _ _ rfl rfl HRn.out ?_)
 go_roundg (na+nb-1)
 case measure=>have:=HG.out;omega
 case rel=>exact⟨_,_,_,ba',nb-1,bc-1,_,_,_,_,B',_,rfl,rfl,rfl,HNA,by show _=_;have:=HNB.out;simp at this;omega,by have:=HG.out;omega,HVA,HTB,HO7,au HM7.out.swap,by show _≤_;have:=HNO.out;have:=HG.out;simp only[List.length_append,List.length_cons,List.length_nil] at*;omega,HB7⟩
theorem M0:∀(n:Nat) (L:List (List aD)) (v:Value) (w:World),L.length≤n→L.length≤1000000→gZ.sl bf w v L→Calls Tryz.prog 80 #[v] w (xY L w)
 |0,L,v,w,h,_,hv=>vD L v w (by omega) hv
 |n+1,L,v,w,h,hM,hv=>by
  by_cases h2:L.length<2
  ·exact vD L v w h2 hv
  exact JC n (fun L v w=>M0 n L v w) L v w h hM (by omega) hv
theorem vE {w:World} {body:List aI} {fs os:List aN} {at_:Int} {e:Int} (h:pJ body fs os=e) (h0:e≠0):nT w (.slice none 0 0) e body fs at_ os:=by unfold nT;rw[if_pos (by rw[h];exact h0)];exact⟨rfl,h.symm⟩
theorem FY {w:World} {body:List aI} {fs os:List aN} {at_:Int} (h:pJ body fs os=0) (hm:dF (dX fs at_ os) 0 body [[]]=none):nT w (.slice none 0 0) 4 body fs at_ os:=by
 unfold nT;rw[if_neg (by rw[h];simp)];have:lF (dX fs at_ os) body=none:=by unfold lF;rw[hm]
 rw[this];exact⟨rfl,rfl⟩
theorem FZ {w:World} {v:Value} {body:List aI} {fs os:List aN} {at_:Int} {R:List (List aD)} (h:pJ body fs os=0) (hm:lF (dX fs at_ os) body=some R) (hv:gZ.sl bf w v R):nT w v 0 body fs at_ os:=by unfold nT;rw[if_neg (by rw[h];simp),hm];exact⟨rfl,hv⟩
theorem F4 {fs os:List aN} {at_:Int} (h1:(aT fs).1=0) (h2:(aT os).1=0) (i:Nat):(dX fs at_ os i).Nodup:=by
 unfold dX;split;·exact uf (set_right h2).2.1
 exact uf (set_right h1).2.1
theorem M4 {n:Nat} {a b:World} (h:Below n a b) (q:Nat):Below n a (b.drewN q):=⟨h.os,h.tape,h.output,h.size,h.block⟩
theorem ou (pick:Nat→List aA):∀(ats:List aI) (n:Nat) (ls ms:List (List aD)),ls.length≤20000→dF pick n ats ls=some ms→ms.length≤20000
 |[],_,ls,ms,h,e=>by cases e;exact h
 |a::ats,n,ls,ms,h,e=>by
  unfold dF at e;split at e;·exact ou pick ats _ ls ms h e
  split at e;·cases e
  exact ou pick ats _ _ ms (by omega) e
theorem vF:∀(ats:List aI) (K:List Bs),(∀a∈ats,a.terms.length≤4)→(fF K ats).length≤K.length+4*ats.length
 |[],K,_=>by simp[fF]
 |a::ats,K,h=>by
  rw[iE];have h1:=vF ats (if a.no then K else bY K a.terms) fun b hb=>h b (by simp[hb]);have h2:=kM a.terms K;have h3:=h a (by simp);cases hno:a.no with
  |true=>rw[hno] at h1;simp only[if_true,List.length_cons] at h1⊢;omega
  |false=>rw[hno] at h1;simp only[Bool.false_eq_true,if_false,List.length_cons] at h1⊢;omega
theorem JD {fs os:List aN} {at_:Int} {body:List aI} {ms:List (List aD)} (hb:aL body=0) (hm:dF (dX fs at_ os) 0 body [[]]=some ms):∀l∈ms,l.length≤20:=fun l hl=>by
 have h:=((nQ (dX fs at_ os) body 0 [[]] ms [] (fun x hx=>by simp at hx;subst hx;rfl) hm l).1 hl).2.1;obtain⟨h5,ha⟩:=fM hb;have h1:=vF body [] fun a hx=>(bB (ha a hx)).2.1;have h2:=congrArg List.length h;have e:(bJ l).length=l.length:=by unfold bJ;rw[List.length_map]
 rw[e,List.length_map] at h2;simp only[List.length_nil] at h1;omega
theorem JE (l:List aD):(gX l).length=l.length:=(bM _).length_eq
theorem LV {fs os:List aN} {at_:Int} {body:List aI} {ms:List (List aD)} (hm:dF (dX fs at_ os) 0 body [[]]=some ms):∀l∈ms,(bJ l).Nodup:=fun l hl=>by rw[((nQ (dX fs at_ os) body 0 [[]] ms [] (fun x hx=>by simp at hx;subst hx;rfl) hm l).1 hl).2.1];exact iJ body
theorem UU (body:List aI) (v fv ov:Value) (fs os:List aN) (at_:Int) (w:World) (hv:bN.sl bf w v body) (hf:Facts w fv fs) (ho:Facts w ov os) (hk:∀a∈body,CG a) (WZ:∀k,okF (fs.getD k aC)) (W9:∀k,okF (os.getD k aC)):
  Calls Tryz.prog 49 #[v,fv,.int .i64 at_,ov] w fun e w'=>∃v' er,e=.returned (.tuple #[v',.int .i64 er])∧nT w' v' er body fs at_ os∧Below w.heap.size w w':=by
 have HB:=au (xV body v w hv hk);have HF:Hid (∀w1,Below w.heap.size w w1→Calls Tryz.prog 72 #[fv] w1 fun e w'=>e=.returned (.agg #[.int .i64 (aT fs).1,.int .i64 (aT fs).2])∧Hid (Below w.heap.size w w')):=fun w1 h1=>
  (OB fv fs w1 (hf.below h1) WZ).mono fun e w' ⟨he,hL⟩=>⟨he,aj h1 hL.below h1.size⟩
 have HO:Hid (∀w1,Below w.heap.size w w1→Calls Tryz.prog 72 #[ov] w1 fun e w'=>e=.returned (.agg #[.int .i64 (aT os).1,.int .i64 (aT os).2])∧Hid (Below w.heap.size w w')):=fun w1 h1=>
  (OB ov os w1 (ho.below h1) W9).mono fun e w' ⟨he,hL⟩=>⟨he,aj h1 hL.below h1.size⟩
 have HEn:Hid (aL body=0→(aT fs).1=0→(aT os).1=0→∀w1,Below w.heap.size w w1→Calls Tryz.prog 78 #[v,fv,.int .i64 at_,ov] w1 fun e w'=>∃v er,e=.returned (.tuple #[v,.int .i64 er])∧QS w' v er (dX fs at_ os) body (dF (dX fs at_ os) 0 body [[]])∧Hid (Below w.heap.size w w')):=fun e0 e1 e2 w1 h1=>
  (QT body fs os at_ v fv ov w1 (aB.aJ hv h1) (hf.below h1) (ho.below h1) e0 e1 e2).mono fun e w' ⟨v,er,he,hE,hB⟩=>⟨v,er,he,hE,aj h1 hB h1.size⟩
 have hEW:pJ body fs os=if aL body≠0 then aL body else if(aT fs).1≠0 then(aT fs).1 else(aT os).1:=rfl;have HEW:=au hEW;obtain⟨a,cap,rfl⟩:=aB.slice hv;obtain⟨fa,fc,rfl⟩:=aF hf;obtain⟨oa,oc,rfl⟩:=aF ho;clear hv hf ho hk WZ W9 hEW;obtain⟨f1,hf1⟩:∃f,f=(aT fs).1:=⟨_,rfl⟩;obtain⟨o1,ho1⟩:∃f,f=(aT os).1:=⟨_,rfl⟩;obtain⟨eb,heb⟩:∃f,f=aL body:=⟨_,rfl⟩;obtain⟨f2,hf2⟩:∃f,f=(aT fs).2:=⟨_,rfl⟩;obtain⟨o2,ho2⟩:∃f,f=(aT os).2:=⟨_,rfl⟩;have HF1:=au hf1;have HO1:=au ho1;have HEB:=au heb;rw[←hf1,←heb,←ho1] at HEW HEn;rw[←hf1,←hf2] at HF;rw[←ho1,←ho2] at HO;rw[←heb] at HB;clear hf1 ho1 heb hf2 ho2
 by_cases h0:eb=0
 ·subst h0
  by_cases h1:f1=0
  ·subst h1;have HE0:Hid (pJ body fs os=o1):=by show _=_;rw[HEW.out];simp
   clear HEW
   go_enter Tryz.func49,Tryz.ntmps49
   go_wp2_with fail
   refine HB.out.mono ?_;rintro e w1 ⟨rfl,hB1⟩;have H1:=au (HF.out w1 hB1);clear HB HF hB1
   go_wp2_with fail
   refine H1.out.mono ?_;rintro e w2 ⟨rfl,hB2⟩;have H2:=au (HO.out (w2.alloc (.cells #[.int .i64 0,.int .i64 f2] 69)) (hB2.out.alloc hB2.out.size _));clear HO H1 hB2
   go_wp2_with fail
   refine H2.out.mono ?_;rintro e w3 ⟨rfl,hB3⟩
   by_cases h2:o1=0
   ·subst h2;have H3:=au (HEn.out (by trivial) (by trivial) (by trivial) (w3.alloc (.cells #[.int .i64 0,.int .i64 o2] 69)) (hB3.out.alloc hB3.out.size _));clear H2 hB3 HEn
    go_wp2_with fail
    refine H3.out.mono ?_;rintro e w4 ⟨ev,er,rfl,hE,hB4⟩;clear H3;cases hm:dF (dX fs at_ os) 0 body [[]] with
    |none=>
     rw[hm] at hE;obtain⟨rfl,rfl⟩:=hE;have HW:=au (fun w=>FY (w:=w) HE0.out hm);clear hm;go_wp2;exact bodyPost_ret (v:=.tuple #[.slice none 0 0,.int .i64 4]) (by simp[results,Tryz.results49,go_sem]) rfl ⟨_,4,rfl,HW.out _,hB4.out⟩
    |some ms=>
     rw[hm] at hE;obtain⟨rfl,hsl⟩:=hE;have hms:=ou (dX fs at_ os) body 0 [[]] ms (by simp) hm;have hfl:=Nat.le_trans (List.length_filter_le (fun l=> !barredB (dX fs at_ os) 0 body l) ms) hms;have HKN:Hid (∀l∈ms.filter (fun l=> !barredB (dX fs at_ os) 0 body l),(bJ l).Nodup):=fun l hl=>LV hm l (List.mem_filter.1 hl).1;have HFin:Hid (∀R,(R.Pairwise fun a b=>gM a b<0)→(∀x,x∈R↔∃l∈ms.filter (fun l=> !barredB (dX fs at_ os) 0 body l),x=gX l)→lF (dX fs at_ os) body=some R):=fun R h1 h2=>OP (kH HEB.out.symm) (F4 HF1.out.symm HO1.out.symm) hm h1 h2;have HSm:Hid (∀ps:List (Value×List aD),ps.map (·.2)=(ms.filter fun l=> !barredB (dX fs at_ os) 0 body l).map gX→∀p∈ps,p.2.length≤8796093022208):=fun ps he p hp=>by have h1:p.2∈ps.map (·.2):=List.mem_map.2 ⟨p,hp,rfl⟩;rw[he] at h1;obtain⟨l,hl,e⟩:=List.mem_map.1 h1;rw[←e,JE];exact Nat.le_trans (JD HEB.out.symm hm l (List.mem_filter.1 hl).1) (by omega)
     have HSl:=au hsl;obtain⟨ea,ec,rfl⟩:=aB.slice hsl;clear hm hms hsl;generalize(ms.filter fun l=> !barredB (dX fs at_ os) 0 body l)=L at*;have Pq:w4.heap.size≤w4.heap.size:=Nat.le_refl _;go_wp2
     go_loopg [15,50] L.length (fun g o i wr=>∃j:Nat,j+g=L.length∧i=.int .i64 j∧∃ps,Hid (ps.map (·.2)=(L.take j).map gX)∧Hid (Lists 106 108 w4.heap.size wr o ps)∧Hid (Below w4.heap.size w4 wr))
     case atStart=>exact⟨0,by omega,rfl,[],(by simp:_=_),Lists.nil _ _ _ _,Below.refl _ _⟩
     obtain⟨j,hj,rfl,ps,HP,HO,HW⟩:=hrel;obtain⟨oa',on,oc',rfl⟩:∃a n c,u15=.slice a n c:=by obtain⟨a,c,e⟩:=Lists.slice HO.out;exact⟨a,_,c,e⟩
     by_cases hlt:j<L.length
     ·obtain⟨l,hl⟩:∃x,L[j]?=some x:=⟨_,List.getElem?_eq_getElem hlt⟩;obtain⟨b1,o1',_,e1,hb1,⟨bl,rfl,_,hel⟩,hc⟩:=aB.bO HSl.out hl;subst e1;have d0:wr.cell? ⟨b1,o1'+j,none⟩=some (.map (some bl)):=by rw[HW.out.cell (p:=⟨b1,o1'+j,none⟩) hb1];simpa[pX] using hc 0 _ rfl
      have HBi:=au (Ro l bl 20 wr (hel.below HW.out) (HKN.out l (List.mem_of_getElem? hl)) (by omega));have HP1:Hid (∀u:Value,(ps++[(u,gX l)]).map (·.2)=(L.take (j+1)).map gX):=fun u=>by rw[List.map_append,HP.out,List.take_add_one,hl,List.map_append];rfl
      have hpl:ps.length=j:=by have:=congrArg List.length HP.out;rw[List.length_map,List.length_map,List.length_take] at this;omega
      clear hc hl hel HP
      go_wp2_with fail
      refine HBi.out.mono ?_;rintro e w5 ⟨v5,rfl,hv5,hB5⟩;have hs5:=hB5.size;have hsr:=HW.out.size;have hO5:=HO.out.kept (w':=w5) fun k hk _=>hB5.block k hk;have hap:=HO.out.Ib hv5 (by omega);obtain⟨v',w6,hrun,hO6,hg6,hd6⟩:=hO5.more (oP hv5 (lo':=w4.heap.size) (by omega)) hap.1 hap.2 (by omega) (by omega);have HB6:Hid (Below w4.heap.size w4 w6):=(aj HW.out (hB5.alloc hs5 _) hsr).grown hg6 (by simp;omega) (fun k e=>hO5.lo_le k e);obtain⟨a5,n5,c5,rfl⟩:∃a n c,v5=.slice a n c:=by obtain⟨a,c,e⟩:=aB.aY hv5;exact⟨a,_,c,e⟩
      obtain⟨a6,n6,c6,rfl⟩:∃a n c,v'=.slice a n c:=by obtain⟨a,c,e⟩:=Lists.slice hO6;exact⟨a,_,c,e⟩
      have HR6:=au hrun;have HO6:=au hO6;clear hrun hO6 hg6 hd6 hO5 hap hv5 hB5 hs5 hsr HBi hpl d0
      go_wp2_with (at_builtin;refine wpList_append_run rfl (.tmp 54) (.tmp 57) 103 rfl _ _ _ _ rfl rfl HR6.out ?_)
      go_roundg (L.length- (j+1))
      case measure=>omega
      case rel=>exact⟨j+1,by omega,by go_num,_,HP1.out _,HO6,HB6⟩
     have e:L.take j=L:=List.take_of_length_le (by omega);have hpe:=HP.out;rw[e] at hpe;have hpl:ps.length=L.length:=by have:=congrArg List.length hpe;rw[List.length_map,List.length_map] at this;omega
     have hps:∀p∈ps,p.2.length≤8796093022208:=HSm.out ps hpe;have hls:=Lists.sl HO.out (by omega) hps;rw[hpe] at hls;have HMg:=au (M0 L.length (L.map gX) (.slice oa' on oc') wr (by simp) (by simp;omega) (aB.dO hls));clear e hpe hpl hps hls HP HO
     go_wp2_with fail
     refine HMg.out.mono ?_;rintro e w7 ⟨v7,R,rfl,hR,hRp,hRm,hRl,hB7⟩;have Nu:=au (HFin.out R hRp fun x=>by rw[hRm,List.mem_map];exact⟨fun⟨l,hl,e⟩=>⟨l,hl,e.symm⟩,fun⟨l,hl,e⟩=>⟨l,hl,e.symm⟩⟩);have HR:=au hR;obtain⟨a7,n7,c7,rfl⟩:∃a n c,v7=.slice a n c:=by obtain⟨a,c,e⟩:=aB.slice hR;exact⟨a,_,c,e⟩
     have HB7:=au (aj hB4.out (aj HW.out hB7 HW.out.size) hB4.out.size);clear hR hRp hRm hRl hB7 HMg;go_wp2;exact bodyPost_ret (v:=.tuple #[.slice a7 n7 c7,.int .i64 0]) (by simp[results,Tryz.results49,go_sem]) rfl ⟨_,0,rfl,FZ HE0.out Nu.out HR.out,HB7.out⟩
   have hq:(o1 != 0)=true:=by simpa using h2
   have HW:=au (fun w=>vE (w:=w) (at_:=at_) HE0.out h2);clear H2 h2 HEn;go_wp2
   go_quiet (fail)
   go_wp2;exact bodyPost_ret (v:=.tuple #[.slice none 0 0,.int .i64 o1]) (by simp[results,Tryz.results49,go_sem]) rfl ⟨_,o1,rfl,HW.out _,M4 (hB3.out.alloc hB3.out.size _) _⟩
  have hq:(f1 != 0)=true:=by simpa using h1
  have HW:=au (fun w=>vE (w:=w) (body:=body) (fs:=fs) (os:=os) (at_:=at_) (e:=f1) (by rw[HEW.out];simp[h1]) h1);clear h1 HEn HEW HO
  go_enter Tryz.func49,Tryz.ntmps49
  go_wp2_with fail
  refine HB.out.mono ?_;rintro e w1 ⟨rfl,hB1⟩;have H1:=au (HF.out w1 hB1);clear HB HF hB1
  go_wp2_with fail
  refine H1.out.mono ?_;rintro e w2 ⟨rfl,hB2⟩;clear H1;go_wp2
  go_quiet (fail)
  go_wp2;exact bodyPost_ret (v:=.tuple #[.slice none 0 0,.int .i64 f1]) (by simp[results,Tryz.results49,go_sem]) rfl ⟨_,f1,rfl,HW.out _,M4 (hB2.out.alloc hB2.out.size _) _⟩
 have hq:(eb != 0)=true:=by simpa using h0
 have HW:=au (fun w=>vE (w:=w) (body:=body) (fs:=fs) (os:=os) (at_:=at_) (e:=eb) (by rw[HEW.out];simp[h0]) h0);clear h0 HEn HEW HO HF
 go_enter Tryz.func49,Tryz.ntmps49
 go_wp2_with fail
 refine HB.out.mono ?_;rintro e w1 ⟨rfl,hB1⟩;have HB1:=au hB1;clear HB hB1;go_wp2;exact bodyPost_ret (v:=.tuple #[.slice none 0 0,.int .i64 eb]) (by simp[results,Tryz.results49,go_sem]) rfl ⟨_,eb,rfl,HW.out _,HB1.out⟩
end Go.Proofs.YtaallngooaaonaaGreatDoor
