import Derived.Test.YtafmbokfkbccaaaGreatDoorJN5
import Derived.Test.YtafmbokfkbccaaaGreatDoorJN7
import Derived.Test.YtafmbokfkbccaaaGreatDoorJN12
import Derived.Test.YtafmbokfkbccaaaGreatDoorJN19
import Derived.Lib.SlBytesRow
import Derived.Test.YtafmbokfkbccaaaGreatDoorJN8
namespace Go.Proofs.YtafmbokfkbccaaaGreatDoor
open Go.RowKit Go.Sort
def qD (r:fG) (j:Nat):Bs:=Eh r++(r.known.take j).flatMap qm
def rH (r:fG) (j:Nat):Bs:=Eh r++r.known.flatMap qm++(r.known.take j).map fun f=>oZ (inB r.fresh f)
theorem EI {r:fG} {j:Nat} {f:au} (h:r.known[j]?=some f):qD r (j+1)=qD r j++qm f:=by
 unfold qD;rw[List.take_add_one,h];simp[List.flatMap_append]
theorem Av {r:fG} {j:Nat} (h:r.known.length≤j):qD r j=rH r 0:=by
 unfold qD rH;rw[List.take_of_length_le h];simp
theorem EJ {r:fG} {j:Nat} {f:au} (h:r.known[j]?=some f):rH r (j+1)=rH r j++[oZ (inB r.fresh f)]:=by
 unfold rH;rw[List.take_add_one,h];simp
theorem Aw {r:fG} {j:Nat} (h:r.known.length≤j):rH r j=vk r:=by
 unfold rH vk;rw[List.take_of_length_le h]
theorem wW:∀(l:List au),(∀f∈l,zO f)→(l.flatMap qm).length≤l.length*66000
 |[],_=>by simp
 |f::l,h=>by
  have h1:=wW l fun t ht=>h t (by simp[ht]);have h2:=zS (h f (by simp)) f.2.length;rw[zR (Nat.le_refl _)] at h2;rw[List.flatMap_cons,List.length_append,List.length_cons];omega
theorem Ay {r:fG} (h:Cc r) (j:Nat):(qD r j).length≤17000000:=by
 have h1:=wW (r.known.take j) fun f hf=>h.facts f (List.mem_of_mem_take hf);have h2:(r.known.take j).length≤r.known.length:=List.length_take_le' _ _;have:=h.few;unfold qD;rw[List.length_append];have:(Eh r).length=5:=rfl;omega
theorem Az {r:fG} (h:Cc r) (j:Nat):(rH r j).length≤17001000:=by
 have h1:=Ay h r.known.length;rw[Av (Nat.le_refl _)] at h1;have h2:(r.known.take j).length≤r.known.length:=List.length_take_le' _ _;have:=h.few;unfold rH at h1⊢;rw[List.take_zero,List.map_nil,List.append_nil] at h1;rw[List.length_append,List.length_map];omega
theorem jA.five (w:World) (a b c d e:UInt8) {x1 x2 x3 x4 x5:Int} (h1:x1=(a.toNat:Int)) (h2:x2=(b.toNat:Int)) (h3:x3=(c.toNat:Int)) (h4:x4=(d.toNat:Int)) (h5:x5=(e.toNat:Int)):jA w.heap.size (w.alloc (.cells #[.int .u8 x1,.int .u8 x2,.int .u8 x3,.int .u8 x4,.int .u8 x5] 5)) (.slice (some ⟨w.heap.size,0,none⟩) 5 5) [a,b,c,d,e]:=by
 subst h1 h2 h3 h4 h5;exact⟨rfl,Or.inr ⟨w.heap.size,5,_,rfl,Nat.le_refl _,heap_alloc_new w _,Nat.le_refl _,by simp[maxLen],rfl,rfl⟩⟩
theorem JY (n:Nat):IntKind.u8.wrap (n:Int)=(((UInt8.ofNat (n%256)).toNat:Nat):Int):=by
 rw[ofNat_toNat (Nat.mod_lt _ (by omega)),IntKind.wrap_u8];omega
theorem jA.low {lo lo':Nat} {w:World} {v:Value} {l:Bs} (h:jA lo w v l) (hl:lo'≤lo):jA lo' w v l:=by
 refine⟨h.1,?_⟩;rcases h.2 with e|⟨g,cap,cur,e,hb,r⟩
 ·exact Or.inl e
 ·exact Or.inr ⟨g,cap,cur,e,Nat.le_trans hl hb,r⟩
set_option maxRecDepth 100000 in
set_option maxHeartbeats 2000000 in
theorem JZ (K N:List au) (lv ro:Nat) (dn:Bool) (kv nv:Value) (w:World) (hk:Facts w kv K) (hn:Facts w nv N) (hr:Cc ⟨K,N,lv,ro,dn⟩) (hN:gW N):
  Calls Tryz.prog 72 #[.agg #[kv,nv,.int .i64 lv,.int .i64 ro,.bool dn]] w fun e w'=>∃v,e=.returned v∧jA w.heap.size w' v (vk ⟨K,N,lv,ro,dn⟩)∧Below w.heap.size w w':=by
 obtain⟨ka,kc,rfl⟩:=aB hk;obtain⟨na,nc,rfl⟩:=aB hn;obtain⟨w1,hw1⟩:∃w1,w1=w.alloc (.cells #[.slice ka K.length kc,.slice na N.length nc,.int .i64 lv,.int .i64 ro,.bool dn] 47):=⟨_,rfl⟩;have hL1:Later w w1:=by rw[hw1];exact(Later.refl w).alloc _
 have hr1:w1.heap[w.heap.size]?=some (.cells #[.slice ka K.length kc,.slice na N.length nc,.int .i64 lv,.int .i64 ro,.bool dn] 47 (0,0)):=by rw[hw1];exact heap_alloc_new w _
 have h1:lv<256:=by have:=hr.lev;simp only at this;omega
 have h2:ro<65536:=by have:=hr.rou;simp only at this;omega
 have h3:K.length<256:=hr.few;have HK:=hide hk;have HN:=hide hn;have HRr:=hide hr;have HRi:=hide hN;have HW1:=hide hw1;have HL1:=hide hL1;have jT:Hid (∀w',Later w1 w'→w'.heap[w.heap.size]?=some (.cells #[.slice ka K.length kc,.slice na N.length nc,.int .i64 lv,.int .i64 ro,.bool dn] 47 (0,0))):=fun w' h=>(h.block (Array.getElem?_eq_some_iff.1 hr1).1).trans hr1;have hlt1:=(Array.getElem?_eq_some_iff.1 hr1).1;clear hk hn hr hw1 hL1 hr1 hN
 go_enter Tryz.func72,Tryz.ntmps72
 go_wp2_with (first|(rw[←HW1.out])|fail)
 refine wp_region_held_drew (S:=fun w'=>Later w1 w') (by kernel_rfl) (Later.refl w1).drew (fun hHeld=> ?_);refine ak (i:=0) (d:=some 8) (v:= ?_) rfl rfl hHeld ?_ ?_;rotate_left;focus intro w hSw;(try dsimp only at hSw);obtain⟨q0,q1,q2,q3,q4,_,_⟩:=dR (jT.out _ hSw);go_simp;try with_reducible rfl
 simp only[aK,aL,aze,asu];refine ak (i:=1) (d:=some 9) (v:= ?_) rfl rfl hHeld ?_ ?_;rotate_left;focus intro w hSw;(try dsimp only at hSw);obtain⟨q0,q1,q2,q3,q4,_,_⟩:=dR (jT.out _ hSw);go_simp;try with_reducible rfl
 simp only[aK,aL,aze,asu];refine ak (i:=2) (d:=some 10) (v:= ?_) rfl rfl hHeld ?_ ?_;rotate_left;focus intro w hSw;(try dsimp only at hSw);obtain⟨q0,q1,q2,q3,q4,_,_⟩:=dR (jT.out _ hSw);go_simp;try with_reducible rfl
 simp only[aK,aL,aze,asu];refine ak (i:=3) (d:=some 11) (v:= ?_) rfl rfl hHeld ?_ ?_;rotate_left;focus intro w hSw;(try dsimp only at hSw);obtain⟨q0,q1,q2,q3,q4,_,_⟩:=dR (jT.out _ hSw);go_simp;try with_reducible rfl
 simp only[aK,aL,aze,asu];refine ak (i:=4) (d:=some 12) (v:= ?_) rfl rfl hHeld ?_ ?_;rotate_left;focus intro w hSw;(try dsimp only at hSw);obtain⟨q0,q1,q2,q3,q4,_,_⟩:=dR (jT.out _ hSw);go_simp;try with_reducible rfl
 simp only[aK,aL,aze,asu];refine ak (i:=5) (d:=some 13) (v:= ?_) rfl rfl hHeld ?_ ?_;rotate_left;focus intro w hSw;(try dsimp only at hSw);obtain⟨q0,q1,q2,q3,q4,_,_⟩:=dR (jT.out _ hSw);go_simp;try with_reducible rfl
 simp only[aK,aL,aze,asu];refine ak (i:=6) (d:=some 14) (v:= ?_) rfl rfl hHeld ?_ ?_;rotate_left;focus intro w hSw;(try dsimp only at hSw);obtain⟨q0,q1,q2,q3,q4,_,_⟩:=dR (jT.out _ hSw);go_simp;try with_reducible rfl
 simp only[aK,aL,aze,asu];refine ak (i:=7) (d:=some 15) (v:= ?_) rfl rfl hHeld ?_ ?_;rotate_left;focus intro w hSw;(try dsimp only at hSw);obtain⟨q0,q1,q2,q3,q4,_,_⟩:=dR (jT.out _ hSw);go_simp;try with_reducible rfl
 simp only[aK,aL,aze,asu];refine ak (i:=8) (d:=some 16) (v:= ?_) rfl rfl hHeld ?_ ?_;rotate_left;focus intro w hSw;(try dsimp only at hSw);obtain⟨q0,q1,q2,q3,q4,_,_⟩:=dR (jT.out _ hSw);go_simp;try with_reducible rfl
 simp only[aK,aL,aze,asu];refine ak (i:=9) (d:=some 17) (v:= ?_) rfl rfl hHeld ?_ ?_;rotate_left;focus intro w hSw;(try dsimp only at hSw);obtain⟨q0,q1,q2,q3,q4,_,_⟩:=dR (jT.out _ hSw);go_simp;try with_reducible rfl
 simp only[aK,aL,aze,asu];refine ak (i:=10) (d:=some 18) (v:= ?_) rfl rfl hHeld ?_ ?_;rotate_left;focus intro w hSw;(try dsimp only at hSw);obtain⟨q0,q1,q2,q3,q4,_,_⟩:=dR (jT.out _ hSw);go_simp;try with_reducible rfl
 simp only[aK,aL,aze,asu];refine ak (i:=11) (d:=some 19) (v:= ?_) rfl rfl hHeld ?_ ?_;rotate_left;focus intro w hSw;(try dsimp only at hSw);obtain⟨q0,q1,q2,q3,q4,_,_⟩:=dR (jT.out _ hSw);go_simp;try with_reducible rfl
 simp only[aK,aL,aze,asu];refine ak (i:=13) (d:=some 21) (v:= ?_) rfl rfl hHeld ?_ ?_;rotate_left;focus intro w hSw;(try dsimp only at hSw);obtain⟨q0,q1,q2,q3,q4,_,_⟩:=dR (jT.out _ hSw);go_simp;try with_reducible rfl
 simp only[aK,aL,aze,asu];refine ak (i:=14) (d:=some 22) (v:= ?_) rfl rfl hHeld ?_ ?_;rotate_left;focus intro w hSw;(try dsimp only at hSw);obtain⟨q0,q1,q2,q3,q4,_,_⟩:=dR (jT.out _ hSw);go_simp;try with_reducible rfl
 simp only[aK,aL,aze,asu];refine ak (i:=15) (d:=some 23) (v:= ?_) rfl rfl hHeld ?_ ?_;rotate_left;focus intro w hSw;(try dsimp only at hSw);obtain⟨q0,q1,q2,q3,q4,_,_⟩:=dR (jT.out _ hSw);go_simp;try with_reducible rfl
 simp only[aK,aL,aze,asu];refine ak (i:=16) (d:=some 24) (v:= ?_) rfl rfl hHeld ?_ ?_;rotate_left;focus intro w hSw;(try dsimp only at hSw);obtain⟨q0,q1,q2,q3,q4,_,_⟩:=dR (jT.out _ hSw);go_simp;try with_reducible rfl
 simp only[aK,aL,aze,asu];refine wpAnyH_ready (rs:=[12]) (by kernel_rfl) (by simp) ?_;refine AllReadyH.cons rfl (fun K hK=> ?_) AllReadyH.nil;go_simp;have q4:=(dR (jT.out _ hHeld)).2.2.2.2.1;refine(N8 dn _).mono ?_;rintro e wx ⟨rfl,rfl⟩;refine hK.out _ _ hHeld (fun hHeld=> ?_);clear hK K q4;refine wpAnyH_ready (rs:=[17]) (by kernel_rfl) (by simp) ?_;refine AllReadyH.cons rfl (fun K' hK=> ?_) AllReadyH.nil;go_simp;obtain⟨w2,hw2⟩:∃w2,w2=(w1.alloc (.cells #[.int .u8 (IntKind.u8.wrap (lv:Int)),.int .u8 (IntKind.u8.wrap ((ro:Int)/256)),.int .u8 (IntKind.u8.wrap (ro:Int)),.int .u8 ((oZ dn).toNat:Int),.int .u8 (IntKind.u8.wrap (K.length:Int))] 5)).drew:=⟨_,rfl⟩;have hL2:Later w1 w2:=by rw[hw2];exact((Later.refl w1).alloc _).drew
 refine hK.out _ _ (by rw[←hw2];exact hL2) (fun hHeld=> ?_);rw[←hw2];have hO2:jA w.heap.size w2 (.slice (some ⟨w1.heap.size,0,none⟩) 5 5) (qD ⟨K,N,lv,ro,dn⟩ 0):=by
  have:=jA.five w1 (UInt8.ofNat lv) (UInt8.ofNat (ro/256)) (UInt8.ofNat (ro%256)) (oZ dn) (UInt8.ofNat K.length) (x1:=IntKind.u8.wrap (lv:Int)) (x2:=IntKind.u8.wrap ((ro:Int)/256)) (x3:=IntKind.u8.wrap (ro:Int)) (x4:=((oZ dn).toNat:Int)) (x5:=IntKind.u8.wrap (K.length:Int))
   (by rw[JY,Nat.mod_eq_of_lt h1]) (by have e:((ro:Int)/256)=((ro/256:Nat):Int):=(by omega);rw[e,JY,Nat.mod_eq_of_lt (by omega)]) (by rw[JY]) rfl (by rw[JY,Nat.mod_eq_of_lt h3])
  have this:=this.later (Later.refl _).drew;rw[←hw2] at this;have h4:jA w1.heap.size w2 (.slice (some ⟨w1.heap.size,0,none⟩) 5 5) (qD ⟨K,N,lv,ro,dn⟩ 0):=by
   unfold qD Eh;simpa using this
  exact h4.low (by omega)
 have HG2:Hid (Below w.heap.size w w2):=HL1.out.below.trans (hL2.below.mono HL1.out.size);have HO2:=hide hO2;have Xd:w1.heap.size<w2.heap.size:=by rw[hw2];simp
 have hb2:∀k,(Value.slice (some ⟨w1.heap.size,0,none⟩) 5 5).ownBlock=some k→w.heap.size<k:=fun k e=>by
  simp[Value.ownBlock] at e;omega
 have HB2:=hide hb2;have HL2:=hide hL2;have HR2:=hide (jT.out _ hL2);clear hK K' hHeld hw2 hL2 hO2 hb2 jT HL1 HW1;generalize IntKind.u8.wrap (lv:Int)=x1 at*;generalize IntKind.u8.wrap ((ro:Int)/256)=x2 at*;generalize IntKind.u8.wrap (ro:Int)=x3 at*;generalize IntKind.u8.wrap (K.length:Int)=x5 at*;refine wpAnyH_ready (rs:=[18]) (by kernel_rfl) (by simp) ?_;refine AllReadyH.cons rfl (fun K' hK=> ?_) AllReadyH.nil;go_simp;refine hK.out _ _ HL2.out (fun hHeld=> ?_);clear hK K' hHeld;refine wpAnyH_done (by kernel_rfl) ?_ _;obtain⟨q0,q1,q2,q3,q4,_,_⟩:=dR HR2.out;have hw2:w.heap.size<w2.heap.size:=by omega
 clear HL2;generalize hRr:(⟨K,N,lv,ro,dn⟩:fG)=rr at*;have ekn:rr.known=K:=by rw[←hRr]
 have efr:rr.fresh=N:=by rw[←hRr]
 have HEk:=hide ekn;have HEr:=hide hRr;have HEf:=hide efr;clear ekn efr hRr;go_wp2;clear q0 q1 q2 q3 q4
 go_loopg [3,29] K.length (fun g o i wr=>∃j:Nat,j+g=K.length∧i=.int .i64 j∧w.heap.size<wr.heap.size∧Hid (jA w.heap.size wr o (qD rr j))∧Hid (wr.heap[w.heap.size]?=some (.cells #[.slice ka K.length kc,.slice na N.length nc,.int .i64 lv,.int .i64 ro,.bool dn] 47 (0,0)))∧Hid (Below w.heap.size w wr)∧Hid (∀k,o.ownBlock=some k→w.heap.size<k))
 case atStart=>exact⟨0,by omega,rfl,hw2,HO2,HR2,HG2,HB2⟩
 case round=>
  clear HO2 HR2 HG2 HB2;obtain⟨j,hj,rfl,hwr,HO,HRw,HBw,HOb⟩:=hrel;obtain⟨oa,on,oc,rfl⟩:=HO.out.slice3
  by_cases hlt:j<K.length
  ·obtain⟨f,hf⟩:∃f,K[j]?=some f:=⟨_,List.getElem?_eq_getElem hlt⟩;obtain⟨_,a',c',e',hc⟩:=HK.out;simp only[Value.slice.injEq,true_and] at e';obtain⟨rfl,rfl⟩:=e';obtain⟨b,off,rfl,hb,hc⟩:=hc (fun e=>by rw[e] at hf;simp at hf);obtain⟨c0,sv,c1,hsv⟩:=hc j hlt;have ef:K.getD j aC=f:=by rw[List.getD_eq_getElem?_getD,hf];rfl
   rw[ef] at c0 hsv;have d0:wr.cell? ⟨b,off+j*2,none⟩=some (.string f.1):=by rw[HBw.out.cell (p:=⟨b,off+j*2,none⟩) hb];exact c0
   have d1:wr.cell? ⟨b,off+j*2+1,none⟩=some sv:=by rw[HBw.out.cell (p:=⟨b,off+j*2+1,none⟩) hb];exact c1
   obtain⟨wf,hwf⟩:∃wf,wf=wr.alloc (.cells #[.string f.1,sv] 27):=⟨_,rfl⟩;have hLf:Later wr wf:=by rw[hwf];exact(Later.refl wr).alloc _
   have hRf:wf.heap[wr.heap.size]?=some (.cells #[.string f.1,sv] 27 (0,0)):=by rw[hwf];exact heap_alloc_new wr _
   have hrk:rr.known[j]?=some f:=by rw[HEk.out];exact hf
   have hby:zO f:=HRr.out.facts f (List.mem_of_getElem? hrk);have hsl:=Ay HRr.out j;have HC:=hide (JB w (.slice oa on oc) sv (qD rr j) f wf (HO.out.later hLf) hsv (HBw.out.trans (hLf.below.mono (by omega))) hby (by omega));obtain⟨sa,sc,rfl⟩:=aW hsv;obtain⟨e0,e1,_,_,_⟩:=jN hRf;have e1':wf.cell? ⟨wr.heap.size,0+1,none⟩=some (.slice sa f.2.length sc):=e1;have HSt:=hide (EI hrk);have HWf:=hide hwf;have HLf:=hide hLf;clear hc c0 c1 hsv hwf hLf hRf hf hrk hby hsl ef
   go_wp2_with (first|(rw[←HWf.out])|fail)
   refine HC.out.mono ?_;rintro e w5 ⟨v5,rfl,hO5,hG5⟩;obtain⟨a5,n5,c5,rfl⟩:=hO5.slice3;have hzf:=HLf.out.size;have hz5:=hG5.size;have HO5:Hid (jA w.heap.size w5 (.slice a5 n5 c5) (qD rr (j+1))):=by show jA _ _ _ _;rw[HSt.out];exact hO5
   have HR5:Hid (w5.heap[w.heap.size]?=_):=(hG5.block _ (by omega) (fun e=>by have:=HOb.out _ e;omega)).trans ((HLf.out.block hwr).trans HRw.out);have HB5:=hide (HBw.out.trans ((HLf.out.below.mono (by omega:w.heap.size≤wr.heap.size)).trans (hG5.below (by omega) fun k e=>by have:=HOb.out k e;omega)));have VI:Hid (∀k,(Value.slice a5 n5 c5).ownBlock=some k→w.heap.size<k):=fun k e=>by
    rcases hG5.own k e with e|e
    ·exact HOb.out k e
    ·omega
   clear hO5 hG5 HC HO HRw HBw HOb HSt HWf HLf d0 d1 e0 e1 e1';go_wp2
   go_roundg (K.length- (j+1))
   case measure=>omega
   case rel=>exact⟨j+1,by omega,by go_num,by omega,HO5,HR5,HB5,VI⟩
  ·have HO1:Hid (jA w.heap.size wr (.slice oa on oc) (rH rr 0)):=by
    have:=HO.out;rw[Av (by rw[HEk.out];omega)] at this;exact this
   obtain⟨q0,q1,q2,q3,q4,_,_⟩:=dR HRw.out;clear HO;go_wp2;clear q0 q1 q2 q3 q4 hlt hj
   go_loopg [3,40] K.length (fun g o i wr=>∃j:Nat,j+g=K.length∧i=.int .i64 j∧w.heap.size<wr.heap.size∧Hid (jA w.heap.size wr o (rH rr j))∧Hid (wr.heap[w.heap.size]?=some (.cells #[.slice ka K.length kc,.slice na N.length nc,.int .i64 lv,.int .i64 ro,.bool dn] 47 (0,0)))∧Hid (Below w.heap.size w wr)∧Hid (∀k,o.ownBlock=some k→w.heap.size<k))
   case atStart=>exact⟨0,by omega,rfl,hwr,HO1,HRw,HBw,HOb⟩
   case round=>
    clear HO1 HRw HBw HOb;obtain⟨j,hj,rfl,hwr,HO,HRw,HBw,HOb⟩:=hrel;obtain⟨oa,on,oc,rfl⟩:=HO.out.slice3
    by_cases hlt:j<K.length
    ·obtain⟨f,hf⟩:∃f,K[j]?=some f:=⟨_,List.getElem?_eq_getElem hlt⟩;obtain⟨_,a',c',e',hc⟩:=HK.out;simp only[Value.slice.injEq,true_and] at e';obtain⟨rfl,rfl⟩:=e';obtain⟨b,off,rfl,hb,hc⟩:=hc (fun e=>by rw[e] at hf;simp at hf);obtain⟨c0,sv,c1,hsv⟩:=hc j hlt;have ef:K.getD j aC=f:=by rw[List.getD_eq_getElem?_getD,hf];rfl
     rw[ef] at c0 hsv;have d0:wr.cell? ⟨b,off+j*2,none⟩=some (.string f.1):=by rw[HBw.out.cell (p:=⟨b,off+j*2,none⟩) hb];exact c0
     have d1:wr.cell? ⟨b,off+j*2+1,none⟩=some sv:=by rw[HBw.out.cell (p:=⟨b,off+j*2+1,none⟩) hb];exact c1
     obtain⟨wf,hwf⟩:∃wf,wf=wr.alloc (.cells #[.string f.1,sv] 27):=⟨_,rfl⟩;have hLf:Later wr wf:=by rw[hwf];exact(Later.refl wr).alloc _
     have hRf:wf.heap[wr.heap.size]?=some (.cells #[.string f.1,sv] 27 (0,0)):=by rw[hwf];exact heap_alloc_new wr _
     have hrk:rr.known[j]?=some f:=by rw[HEk.out];exact hf
     have hsl:=Az HRr.out j;have hBf:Below w.heap.size w wf:=HBw.out.trans (hLf.below.mono (by omega));have TM:Strs wf sv f.2:=by
      refine hsv.kept' hBf.size fun k hk _=>hBf.block k hk
     have hin:=inC (.slice na N.length nc) (.agg #[.string f.1,sv]) N f wf (HN.out.below hBf) ⟨sv,rfl,TM⟩ HRi.out;rw[vC] at hin;have HIn:=hide hin;obtain⟨sa,sc,rfl⟩:=aW hsv;obtain⟨e0,e1,_,_,_⟩:=jN hRf;have e1':wf.cell? ⟨wr.heap.size,0+1,none⟩=some (.slice sa f.2.length sc):=e1;have hst:=EJ hrk;rw[HEf.out] at hst;have HSt:=hide hst;have HWf:=hide hwf;have HLf:=hide hLf;have TN:=(hLf.block hwr).trans HRw.out;obtain⟨q0,q1,q2,q3,q4,_,_⟩:=dR TN;clear hc c0 c1 hsv hwf hLf hRf hf hrk ef TM hin hst TN hBf;generalize inB N f=bb at*
     go_wp2_with (first|(rw[←HWf.out])|fail)
     refine HIn.out.mono ?_;rintro e w5 ⟨rfl,hL5⟩;have HFl:=hide (N8 bb w5);have hO5:=HO.out.later (HLf.out.trans hL5);have hzf:=HLf.out.size;have hz5:=hL5.size;obtain⟨v6,w6,hrun,hO6,hG6⟩:=qo hO5 (x:=oZ bb) (n:=((oZ bb).toNat:Int)) rfl (by omega) (by omega);obtain⟨a6,n6,c6,rfl⟩:=hO6.slice3;have hz6:=hG6.size;have HO6:Hid (jA w.heap.size w6 (.slice a6 n6 c6) (rH rr (j+1))):=by show jA _ _ _ _;rw[HSt.out];exact hO6
     have Rz:=HLf.out.trans hL5;have HR6:Hid (w6.heap[w.heap.size]?=_):=(hG6.block _ (by omega) (fun e=>by have:=HOb.out _ e;omega)).trans ((Rz.block hwr).trans HRw.out);have HB6:=hide (HBw.out.trans ((Rz.below.mono (by omega:w.heap.size≤wr.heap.size)).trans (hG6.below (by omega) fun k e=>by have:=HOb.out k e;omega)));have VJ:Hid (∀k,(Value.slice a6 n6 c6).ownBlock=some k→w.heap.size<k):=fun k e=>by
      rcases hG6.own k e with e|e
      ·exact HOb.out k e
      ·omega
     have HRn:=hide hrun;clear hO5 hO6 hG6 hL5 hrun HIn HO HRw HBw HOb HSt HWf HLf d0 d1 e0 e1 e1' q0 q1 q2 q3 q4 hsl Rz;generalize oZ bb=fb at*
     go_wp2_with fail
     refine HFl.out.mono ?_;rintro e w7 ⟨rfl,rfl⟩
     go_wp2_with (at_builtin;refine wpList_append_run rfl (.tmp 44) (.tmp 50) 48 rfl _ _ _ _ rfl rfl HRn.out ?_)
     go_roundg (K.length- (j+1))
     case measure=>omega
     case rel=>exact⟨j+1,by omega,by go_num,by omega,HO6,HR6,HB6,VJ⟩
    ·have HO2:Hid (jA w.heap.size wr (.slice oa on oc) (vk rr)):=by
      have:=HO.out;rw[Aw (by rw[HEk.out];omega)] at this;exact this
     go_wp2;go_ret;exact⟨.slice oa on oc,rfl,by rw[HEr.out];exact HO2.out,HBw.out⟩
end Go.Proofs.YtafmbokfkbccaaaGreatDoor
namespace Go.Proofs.YtafmbokfkbccaaaGreatDoor
open Go.RowKit Go.Sort
def kN:Kind UInt8 where
 size:=1
 is:=fun _ _ c t=>c=[.int .u8 (t.toNat:Int)]
 len:=fun h=>by subst h;rfl
 one:=fun h u hu=>by subst h;simp at hu;subst hu;rfl
 kept:=fun h _ _=>h
 mono:=fun h _=>h
def dQ (B:Nat→Prop) (w:World) (v:Value) (l:Bs):Prop:=
 (l.length≤281474976710656∧NV v)∧∃a cap,v=.slice a l.length cap∧(l≠[]→∃b off,a=some ⟨b,off,none⟩∧B b∧b<w.heap.size∧
  ∀i x,l[i]?=some x→∃c,kN.is B w c x∧∀j u,c[j]?=some u→w.cell? ⟨b,off+i*kN.size+j,none⟩=some u)
theorem dQ.of {B:Nat→Prop} {w:World} {v:Value} {l:Bs} (h:kN.sl B w v l):dQ B w v l:=⟨⟨by have:=h.1.1;omega,h.1.2⟩,h.2⟩
theorem dQ.nil (B:Nat→Prop) (w:World) (a:Option Addr) (cap:Nat):dQ B w (.slice a 0 cap) []:=.of (kN.dw B w a cap)
theorem dQ.slice {B:Nat→Prop} {w:World} {v:Value} {l:Bs} (h:dQ B w v l):∃a cap,v=.slice a l.length cap:=by
 obtain⟨_,a,cap,rfl,_⟩:=h;exact⟨a,cap,rfl⟩
theorem dQ.kept {B:Nat→Prop} {w w':World} {v:Value} {l:Bs} (h:dQ B w v l) (hs:w.heap.size≤w'.heap.size) (hk:∀k,k<w.heap.size→B k→w'.heap[k]?=w.heap[k]?):dQ B w' v l:=by
 obtain⟨h0,a,cap,rfl,h1⟩:=h;refine⟨h0,a,cap,rfl,fun hl=> ?_⟩;obtain⟨b,off,rfl,hB,hb,hc⟩:=h1 hl;refine⟨b,off,rfl,hB,Nat.lt_of_lt_of_le hb hs,fun i x hx=> ?_⟩;obtain⟨c,c1,c2⟩:=hc i x hx;exact⟨c,c1,fun j u hu=>by rw[World.cell?_of_block (w:=w) (hk b hb hB)];exact c2 j u hu⟩
theorem dQ.mono {B B':Nat→Prop} {w:World} {v:Value} {l:Bs} (h:dQ B w v l) (hk:∀k,k<w.heap.size→B k→B' k):dQ B' w v l:=by
 obtain⟨h0,a,cap,rfl,h1⟩:=h;refine⟨h0,a,cap,rfl,fun hl=> ?_⟩;obtain⟨b,off,rfl,hB,hb,hc⟩:=h1 hl;exact⟨b,off,rfl,hk b hb hB,hb,hc⟩
theorem dQ.here {B:Nat→Prop} {w:World} {a:Option Addr} {n cap i:Nat} {l:Bs} {x:UInt8} (h:dQ B w (.slice a n cap) l) (hi:l[i]?=some x):
  ∃b off c,a=some ⟨b,off,none⟩∧b<w.heap.size∧kN.is B w c x∧∀j u,c[j]?=some u→w.cell? ⟨b,off+i*kN.size+j,none⟩=some u:=by
 obtain⟨_,a',cap',e,h1⟩:=h;simp only[Value.slice.injEq] at e;obtain⟨rfl,_,_⟩:=e;obtain⟨b,off,rfl,_,hb,hc⟩:=h1 (by intro e;rw[e] at hi;simp at hi);obtain⟨c,c1,c2⟩:=hc i x hi;exact⟨b,off,c,rfl,hb,c1,c2⟩
theorem dQ.later {w w':World} {v:Value} {l:Bs} (h:dQ bZ w v l) (k:Later w w'):dQ bZ w' v l:=h.kept k.size fun _ hi _=>k.block hi
theorem dQ.below {w w':World} {v:Value} {l:Bs} (h:dQ bZ w v l) (k:Below w.heap.size w w'):dQ bZ w' v l:=h.kept k.size fun i hi _=>k.block i hi
def RdB (w:World) (p q:Nat) (s:RdS):Prop:=∃v,w.heap[p]?=some (.cells #[v,.bool s.2] 206 (0,0))∧dQ (fun k=>k≠p∧k<q) w v s.1
theorem RdB.lt {w:World} {p q:Nat} {s:RdS} (h:RdB w p q s):p<w.heap.size:=by
 obtain⟨v,h1,_⟩:=h;exact(Array.getElem?_eq_some_iff.1 h1).1
theorem RdB.below {w w':World} {p q:Nat} {s:RdS} (h:RdB w p q s) (k:Below w.heap.size w w'):RdB w' p q s:=by
 have hp:=h.lt;obtain⟨v,h1,h2⟩:=h;exact⟨v,by rw[k.block p hp];exact h1,dQ.kept h2 k.size fun i hi _=>k.block i hi⟩
theorem RdB.stay {w w':World} {p q:Nat} {s:RdS} (h:RdB w p q s) (hs:w.heap.size≤w'.heap.size) (hp:p<q) (hk:∀k,k<w.heap.size→k<q→w'.heap[k]?=w.heap[k]?):RdB w' p q s:=by
 have hl:=h.lt;obtain⟨v,h1,h2⟩:=h;exact⟨v,by rw[hk p hl hp];exact h1,dQ.kept h2 hs fun i hi hB=>hk i hi hB.2⟩
theorem FR {w:World} {R:Nat} {u0 u1:Value} {t:TypeId} (h:w.heap[R]?=some (.cells #[u0,u1] t (0,0))):w.cell? ⟨R,0,none⟩=some u0∧w.cell? ⟨R,1,none⟩=some u1∧w.frozen? ⟨R,0,none⟩=false∧w.frozen? ⟨R,1,none⟩=false∧R<w.heap.size:=
 ⟨by rw[cell_of_row _ _ _ _ _ _ h];rfl,by rw[cell_of_row _ _ _ _ _ _ h];rfl,by simp[World.frozen?,h],by simp[World.frozen?,h],(Array.getElem?_eq_some_iff.1 h).1⟩
theorem bH {w:World} {g j:Nat} {cs:Array Value} {t:TypeId} {fr:Nat×Nat} (h:w.heap[g]?=some (.cells cs t fr)) (u:Value):(w.setCell ⟨g,j,none⟩ u).heap[g]?=some (.cells (cs.setIfInBounds j u) t fr):=by
 simp[World.setCell,Array.getElem?_modify,h]
theorem EK {v:Value} {w:World} {B:Nat→Prop} {l:Bs} (h:dQ B w v l) {n:Nat} (hn:n≤l.length):
  ∃u x,(∀w',(Instr.slice 48 v none (some (.int .i64 (n:Int))) none).run Tryz.prog w'=.ok u w')∧(∀w',(Instr.slice 48 v (some (.int .i64 (n:Int))) none none).run Tryz.prog w'=.ok x w')∧dQ B w u (l.take n)∧dQ B w x (l.drop n):=by
 obtain⟨⟨h0,h1⟩,a,cap,rfl,h2⟩:=h;have h1:l.length≤cap:=h1;have ht:Tryz.prog.underlying 48=some (.slice (Tryz.prog.elem 48)):=by kernel_rfl
 have hz:∀w',(Go.sizeOf (Tryz.prog.elem 48)).run Tryz.prog w'=.ok 1 w':=fun w'=>by
  have e:Tryz.prog.elem 48=5:=by kernel_rfl
  obtain⟨i,i1,i2,i3,i4⟩:=Gl;rw[e];simp[Go.sizeOf,typeInfo,i1,i3]
 refine⟨sliced a 0 n cap 1,sliced a n l.length cap 1,fun w'=> ?_,fun w'=> ?_,?_,?_⟩
 ·rw[run_slice_h w' 48 a l.length cap ht .i64 (n:Int) (by omega) (by omega),hz];simp[Result.andThen]
 ·rw[run_slice_l w' 48 a l.length cap ht .i64 (n:Int) (by omega) (by omega),hz];simp[Result.andThen]
 ·have hle:(l.take n).length=n:=by rw[List.length_take];omega
  refine⟨⟨by omega,by show n-0≤cap-0;omega⟩,_,_,by unfold sliced;rw[hle];rfl,fun hne=> ?_⟩;have hln:l≠[]:=fun e=>hne (by rw[e];simp);obtain⟨b,off,rfl,hB,hb,hc⟩:=h2 hln;refine⟨b,off,by simp[Addr.add],hB,hb,fun i x hi=> ?_⟩;have hi':i<n:=by have:=(List.getElem?_eq_some_iff.1 hi).1;omega
  rw[List.getElem?_take_of_lt hi'] at hi;exact hc i x hi
 ·refine⟨⟨by rw[List.length_drop];omega,by show l.length-n≤cap-n;omega⟩,_,_,by unfold sliced;rw[List.length_drop],fun hne=> ?_⟩;have hlt:n<l.length:=by
   refine Nat.lt_of_not_le fun h=>hne (List.drop_eq_nil_of_le h)
  have hln:l≠[]:=fun e=>by rw[e] at hlt;simp at hlt
  obtain⟨b,off,rfl,hB,hb,hc⟩:=h2 hln;refine⟨b,off+n,by rw[if_neg (by omega)];simp[Addr.add],hB,hb,fun i x hi=> ?_⟩;rw[List.getElem?_drop] at hi;obtain⟨c,c1,c2⟩:=hc (n+i) x hi;refine⟨c,c1,fun j u hu=> ?_⟩;have:=c2 j u hu;have e:off+n+i*kN.size+j=off+(n+i)*kN.size+j:=by show off+n+i*1+j=off+(n+i)*1+j;omega
  rw[e];exact this
theorem Tn.two (w:World) (p:Nat) (x y:Value):Tn p w (w.setCell ⟨p,0,none⟩ x)∧Tn p w ((w.setCell ⟨p,0,none⟩ x).setCell ⟨p,1,none⟩ y):=
 ⟨(Tn.refl p w).setCell (Or.inl rfl) _,((Tn.refl p w).setCell (Or.inl rfl) _).setCell (Or.inl rfl) _⟩
set_option maxRecDepth 100000 in
set_option maxHeartbeats 1000000 in
theorem takeC (p q:Nat) (s:RdS) (n:Nat) (w:World) (h:RdB w p q s):
  Calls Tryz.prog 258 #[.pointer (some ⟨p,0,none⟩),.int .i64 (n:Int)] w fun e w'=>∃v,e=.returned v∧dQ (fun k=>k≠p∧k<q) w' v (mD n s).1∧RdB w' p q (mD n s).2∧Tn p w w':=by
 obtain⟨l,am⟩:=s;obtain⟨v,hr,hv⟩:=h;dsimp only at hr hv;obtain⟨c0,c1,f0,f1,hlt⟩:=FR hr;have HR:=hide hr;have HV:=hide hv
 by_cases hc:l.length<n
 ·have HX:Hid (mD n (l,am)=([],([],true))):=by show _=_;unfold mD;rw[if_pos hc]
  obtain⟨a,cap,rfl⟩:=dQ.slice hv;have hll:=hv.1.1;clear hr hv;generalize l.length=ln at*
  go_enter Tryz.func258,Tryz.ntmps258
  go_wp2;go_ret;rw[HX.out];refine⟨_,rfl,dQ.nil _ _ _ _,⟨.slice none 0 0,?_,dQ.nil _ _ _ _⟩,(Tn.two _ p _ _).2⟩;exact bH (j:=1) (bH (j:=0) HR.out _) _
 ·obtain⟨u,x,s1,s2,hu,hx⟩:=EK hv (Nat.le_of_not_lt hc);have HX:Hid (mD n (l,am)=(l.take n,(l.drop n,am))):=by show _=_;unfold mD;rw[if_neg hc]
  obtain⟨a,cap,rfl⟩:=dQ.slice hv;obtain⟨ua,un,uc,rfl⟩:∃a n c,u=.slice a n c:=by obtain⟨a,c,e⟩:=dQ.slice hu;exact⟨a,_,c,e⟩
  obtain⟨xa,xn,xc,rfl⟩:∃a n c,x=.slice a n c:=by obtain⟨a,c,e⟩:=dQ.slice hx;exact⟨a,_,c,e⟩
  have HU:=hide hu;have HXx:=hide hx;have hll:=hv.1.1;clear hr hv hu hx;generalize l.length=ln at*
  go_enter Tryz.func258,Tryz.ntmps258
  go_wp2;go_ret;rw[HX.out];have hT:=(Tn.two w p (.slice xa xn xc) (.slice xa xn xc)).1;refine⟨_,rfl,dQ.kept HU.out hT.size fun i hi hB=>hT.block i hi hB.1,⟨_,bH (j:=0) HR.out _,dQ.kept HXx.out hT.size fun i hi hB=>hT.block i hi hB.1⟩,hT⟩
theorem lH (s:RdS):(nU s).1<256:=UInt8.toNat_lt _
set_option maxRecDepth 100000 in
set_option maxHeartbeats 1000000 in
theorem om (p q:Nat) (s:RdS) (w:World) (h:RdB w p q s):
  Calls Tryz.prog 198 #[.pointer (some ⟨p,0,none⟩)] w fun e w'=>e=.returned (.int .i64 ((nU s).1:Nat))∧RdB w' p q (nU s).2∧Tn p w w':=by
 have HT:=hide (takeC p q s 1 w h);obtain⟨t,s1,ht⟩:∃t s1,mD 1 s=(t,s1):=⟨_,_,rfl⟩;have HN:Hid (nU s=((t.headD 0).toNat,s1)):=by show _=_;unfold nU;rw[ht]
 have hln:t.length≤1:=by
  have e:t=(mD 1 s).1:=by rw[ht]
  rw[e];unfold mD;split
  ·simp
  ·simp[List.length_take];omega
 rw[ht] at HT;clear h ht
 go_enter Tryz.func198,Tryz.ntmps198
 go_wp2_with fail
 refine HT.out.mono ?_;rintro e w1 ⟨v,rfl,hv,hR,hT⟩;have hv:dQ (fun k=>k≠p∧k<q) w1 v t:=hv;have hR:RdB w1 p q s1:=hR;have HR:=hide hR;have HT1:=hide hT;obtain⟨a,cap,rfl⟩:=dQ.slice hv;clear HT hR hT;cases t with
 |nil=>
  clear hv;go_wp2;go_ret;rw[HN.out];exact⟨rfl,HR.out,HT1.out⟩
 |cons c t=>
  have:t=[]:=List.eq_nil_of_length_eq_zero (by simpa using hln);subst this;obtain⟨b,off,cc,rfl,hb,rfl,hc⟩:=dQ.here hv (i:=0) rfl;have c0:w1.cell? ⟨b,off,none⟩=some (.int .u8 (c.toNat:Int)):=by simpa[kN] using hc 0 _ rfl
  have hcl:=c.toNat_lt;clear hv hc hln;have HN':Hid (nU s=(c.toNat,s1)):=HN;clear HN;generalize c.toNat=cn at*;go_wp2;go_ret;rw[HN'.out];exact⟨rfl,HR.out,HT1.out⟩
set_option maxRecDepth 100000 in
set_option maxHeartbeats 1000000 in
theorem Lb (p q:Nat) (s:RdS) (w:World) (h:RdB w p q s):
  Calls Tryz.prog 199 #[.pointer (some ⟨p,0,none⟩)] w fun e w'=>e=.returned (.bool (lM s).1)∧RdB w' p q (lM s).2∧Tn p w w':=by
 have HT:=hide (om p q s w h);obtain⟨n,s1,hn⟩:∃n s1,nU s=(n,s1):=⟨_,_,rfl⟩;have hle:=lH s;have HF:Hid (lM s=(decide (n=1),(s1.1,s1.2||decide (1<n)))):=by show _=_;unfold lM;rw[hn]
 rw[hn] at HT hle;clear h hn;dsimp only at hle
 go_enter Tryz.func199,Tryz.ntmps199
 go_wp2_with fail
 refine HT.out.mono ?_;rintro e w1 ⟨rfl,hR,hT⟩;obtain⟨l1,am⟩:=s1;obtain⟨v,hr,hv⟩:=hR;dsimp only at hr hv HF⊢;obtain⟨c0,c1,f0,f1,hlt⟩:=FR hr;have HT1:=hide hT;have HR:=hide hr;have HV:=hide hv;clear HT hr hv hT;have hend:∀b:Bool,Tn p w1 (w1.setCell ⟨p,1,none⟩ (.bool b)):=fun b=>(Tn.refl p w1).setCell (Or.inl rfl) _;have HE:=hide hend;clear hend;have fin:∀b:Bool,b=(am||decide (1<n))→RdB (w1.setCell ⟨p,1,none⟩ (.bool b)) p q (l1,am||decide (1<n))∧Tn p w (w1.setCell ⟨p,1,none⟩ (.bool b)):=fun b hb=>by
  subst hb;have ht:=HE.out (am||decide (1<n));exact⟨⟨v,bH (j:=1) HR.out _,dQ.kept HV.out ht.size fun i hi hB=>ht.block i hi hB.1⟩,HT1.out.trans ht⟩
 have Fin:=hide fin;clear fin;have he:((n:Int)==1)=decide (n=1):=by
  by_cases h:n=1
  ·subst h;rfl
  ·have:¬(n:Int)=1:=by omega
   simp[h];omega
 have HEq:=hide he;clear he;cases am with
 |true=>
  go_wp2;go_ret;rw[HF.out];exact⟨cK HEq.out,Fin.out true (by simp)⟩
 |false=>
  have hd:decide (1<(n:Int))=decide (1<n):=by
   by_cases h:1<n
   ·rw[decide_eq_true h,decide_eq_true (by omega)]
   ·rw[decide_eq_false h,decide_eq_false (by omega)]
  have HD:=hide hd;clear hd;go_wp2;go_ret;rw[HF.out];exact⟨cK HEq.out,Fin.out _ (by rw[HD.out];rfl)⟩
theorem RA {w:World} {v:Value} {B:Nat→Prop} {l:Bs} (h:dQ B w v l):(convert 48 9 v).run Tryz.prog w=.ok (.string (bs l)) w:=by
 obtain⟨_,a,cap,rfl,h2⟩:=h;cases a with
 |none=>
  have hl:l=[]:=Classical.byContradiction fun hl=>by obtain⟨b,off,e,_⟩:=h2 hl;cases e
  subst hl;exact run_convert_bytes_nil (P:=Tryz.prog) w 48 5 Tryz.underlying48 Tryz.underlying5 _ _ 9 Tryz.underlying9
 |some a=>
  refine run_convert_bytes_back (P:=Tryz.prog) w 48 9 5 a cap l Tryz.underlying48 Tryz.underlying5 Tryz.underlying9 fun j hj=> ?_;obtain⟨b,off,e,hB,hb,hc⟩:=h2 (fun e=>by rw[e] at hj;simp at hj);cases e;obtain⟨c,rfl,c2⟩:=hc j l[j] (List.getElem?_eq_getElem hj);have:=c2 0 _ rfl;rw[Addr.add_lit];simpa[kN] using this
set_option maxRecDepth 100000 in
set_option maxHeartbeats 1000000 in
theorem OX (p q:Nat) (s:RdS) (w:World) (h:RdB w p q s):
  Calls Tryz.prog 259 #[.pointer (some ⟨p,0,none⟩)] w fun e w'=>e=.returned (.string (ny s).1)∧RdB w' p q (ny s).2∧Tn p w w':=by
 have HN:=hide (om p q s w h);obtain⟨n,s1,hn⟩:∃n s1,nU s=(n,s1):=⟨_,_,rfl⟩;have hle:=lH s;have HF:Hid (ny s=(bs (mD n s1).1,(mD n s1).2)):=by show _=_;unfold ny;rw[hn]
 rw[hn] at HN hle;clear h hn
 go_enter Tryz.func259,Tryz.ntmps259
 go_wp2_with fail
 refine HN.out.mono ?_;rintro e w1 ⟨rfl,hR,hT⟩;have HT:=hide (takeC p q s1 n w1 hR);have HT1:=hide hT;clear HN hR hT;dsimp only
 go_wp2_with fail
 refine HT.out.mono ?_;rintro e w2 ⟨v,rfl,hv,hR,hT⟩;have hcv:=RA hv;obtain⟨a,k,c,rfl⟩:∃a n c,v=.slice a n c:=by obtain⟨a,c,e⟩:=dQ.slice hv;exact⟨a,_,c,e⟩
 have HR:=hide hR;have HT2:=hide (HT1.out.trans hT);clear HT hv hR hT HT1;go_wp2;go_ret;rw[HF.out];exact⟨rfl,HR.out,HT2.out⟩
end Go.Proofs.YtafmbokfkbccaaaGreatDoor
namespace Go.Proofs.YtafmbokfkbccaaaGreatDoor
open Go.RowKit Go.Sort
theorem Tn.grew {p:Nat} {a b c:World} {row:Option Nat} {o:Obj} (h:Tn p a b) (hg:(b.alloc o).grownBy c row) (hr:∀k,row=some k→a.heap.size≤k):Tn p a c:=
 ⟨hg.os.trans h.os,hg.tape.trans h.tape,hg.output.trans h.output,Nat.le_trans h.size (Nat.le_trans (by simp) hg.size),
  fun k hk ho=>(hg.block k (by simp;have:=h.size;omega) (fun e=>by have:=hr k e.symm;omega)).trans ((Below.heap_alloc b o k (by have:=h.size;omega)).trans (h.block k hk ho))⟩
structure NJ (w:World) (p q B:Nat) (nm:ByteArray) (s:RdS) (ts:List ByteArray) (wr:World):Prop where
 rd:RdB wr p q s
 tn:Tn p w wr
 res:wr.heap[w.heap.size]?=some (.cells #[.string ⟨#[]⟩,.slice none 0 0] 27 (0,0))
 box:∃av,wr.heap[B]?=some (.cells #[.string nm,av] 27 (0,0))∧bsK.own 9 (B+1) wr av ts
theorem NJ.drew {w:World} {p q B:Nat} {nm:ByteArray} {s:RdS} {ts:List ByteArray} {wr:World} (h:NJ w p q B nm s ts wr):NJ w p q B nm s ts wr.drew:=
 ⟨h.rd,h.tn.drew,h.res,h.box⟩
theorem MJ {lo lo':Nat} {w:World} {v:Value} {l:List ByteArray} (h:bsK.own 9 lo w v l) (hl:lo'≤lo):bsK.own 9 lo' w v l:=by
 obtain⟨xs,⟨h1,h2⟩,hx⟩:=h;refine⟨xs,⟨h1,?_⟩,fun i x hi=> ?_⟩
 ·rcases h2 with e|⟨g,cap,cur,e,hb,r⟩
  ·exact Or.inl e
  ·exact Or.inr ⟨g,cap,cur,e,Nat.le_trans hl hb,r⟩
 ·obtain⟨c,c1,c2⟩:=hx i x hi;exact⟨c,c1,c2⟩
theorem wX:∀(n:Nat) (s:RdS),(iF n s).1.length=n
 |0,_=>rfl
 |n+1,s=>by rw[iF,List.length_cons,wX n]
set_option maxRecDepth 100000 in
set_option maxHeartbeats 2000000 in
theorem OY (p q:Nat) (s:RdS) (w:World) (h:RdB w p q s) (hp:p<q) (hq:q≤w.heap.size):
  Calls Tryz.prog 200 #[.pointer (some ⟨p,0,none⟩)] w fun e w'=>∃s',e=.returned (.agg #[.string (rE s).1.1,s'])∧bsK.own 9 w.heap.size w' s' (rE s).1.2∧RdB w' p q (rE s).2∧Tn p w w':=by
 obtain⟨w1,hw1⟩:∃w1,w1=w.alloc (.cells #[.string ⟨#[]⟩,.slice none 0 0] 27):=⟨_,rfl⟩;have hL1:Later w w1:=by rw[hw1];exact(Later.refl w).alloc _
 have hr1:w1.heap[w.heap.size]?=some (.cells #[.string ⟨#[]⟩,.slice none 0 0] 27 (0,0)):=by rw[hw1];exact heap_alloc_new w _
 have HT:=hide (OX p q s w1 (h.below hL1.below));obtain⟨nm,s1,hn⟩:∃nm s1,ny s=(nm,s1):=⟨_,_,rfl⟩;obtain⟨n,s2,hn2⟩:∃n s2,nU s1=(n,s2):=⟨_,_,rfl⟩;have hle:=lH s1;have HF:Hid (rE s=((nm,(iF n s2).1),(iF n s2).2)):=by show _=_;unfold rE;rw[hn];dsimp only;rw[hn2]
 rw[hn] at HT;rw[hn2] at hle;have HN2:=hide hn2;have HW1:=hide hw1;have HR1:=hide hr1;have HL1:=hide hL1;have hle:n<256:=hle;clear h hw1 hL1 hr1 hn hn2
 go_enter Tryz.func200,Tryz.ntmps200
 go_wp2_with (first|(rw[←HW1.out])|fail)
 refine HT.out.mono ?_;rintro e w2 ⟨rfl,hR2,hT2⟩;have hlt1:=(Array.getElem?_eq_some_iff.1 HR1.out).1;obtain⟨w3,hw3⟩:∃w3,w3=w2.alloc (.cells #[.string nm,.slice none 0 0] 27):=⟨_,rfl⟩;have hL3:Later w2 w3:=by rw[hw3];exact(Later.refl w2).alloc _
 have hr3:w3.heap[w2.heap.size]?=some (.cells #[.string nm,.slice none 0 0] 27 (0,0)):=by rw[hw3];exact heap_alloc_new w2 _
 have VK:=HL1.out.size;have hsz2:=hT2.size;have hres2:w2.heap[w.heap.size]?=some (.cells #[.string ⟨#[]⟩,.slice none 0 0] 27 (0,0)):=by
  rw[hT2.block _ hlt1 (by omega)];exact HR1.out
 have OZ:Tn p w w2:=(Tn.of_below HL1.out.below).trans hT2;have RB:=om p q s1 w3 (RdB.below hR2 hL3.below);rw[HN2.out] at RB;have HNu:=hide RB;have EL:=(hL3.block (Array.getElem?_eq_some_iff.1 hres2).1).trans hres2;have HS3:=hide EL;have HT3:=hide (OZ.trans (Tn.of_below (p:=p) hL3.below));have HR3:=hide hr3;have HW3:=hide hw3;have hB2:w.heap.size<w2.heap.size:=by omega
 clear hR2 hT2 hw3 hL3 hr3 hres2 OZ RB EL HT HW1 HR1
 go_wp2_with (first|(rw[←HW3.out])|fail)
 refine HNu.out.mono ?_;rintro e w4 ⟨rfl,hR4,hT4⟩;have hlt3:=(Array.getElem?_eq_some_iff.1 HR3.out).1;have hF0:NJ w p q w2.heap.size nm s2 [] w4:=⟨hR4,HT3.out.trans hT4,by rw[hT4.block _ (by omega) (by omega)];exact HS3.out,
  .slice none 0 0,by rw[hT4.block _ hlt3 (by omega)];exact HR3.out,bsK.iW _ _ _⟩
 have HF0:=hide hF0;have hz4:=hT4.size;clear hR4 hT4 hF0 HNu HS3 HR3 HT3 HW3 HN2 HL1;generalize w2.heap.size=B at*;dsimp only;go_wp2
 go_loopg [9] n (fun g i wr=>∃j:Nat,j+g=n∧i=.int .i64 j∧B<wr.heap.size∧∃ts st,Hid (ts.length=j)∧Hid (iF n s2=(ts++(iF g st).1,(iF g st).2))∧Hid (NJ w p q B nm st ts wr))
 case atStart=>exact⟨0,by omega,rfl,by omega,[],s2,(rfl:_=_),(rfl:_=_),HF0⟩
 case round=>
  clear HF0;obtain⟨j,hj,rfl,hBw,ts,st,HTl,HEq,HW⟩:=hrel;have hF:=HW.out;obtain⟨av,hbx,hav⟩:=hF.box;have hres:=hF.res;have hTn:=hF.tn;obtain⟨b0,b1,f0,f1,RD⟩:=FR hbx;obtain⟨aa,an,ac,rfl⟩:∃a n c,av=.slice a n c:=by obtain⟨a,c,e⟩:=Kind.bT hav;exact⟨a,_,c,e⟩
  by_cases hlt:j<n
  ·obtain⟨g,rfl⟩:∃g,gk=g+1:=⟨gk-1,by omega⟩;obtain⟨x,st1,hx⟩:∃x st1,ny st=(x,st1):=⟨_,_,rfl⟩;have HE1:Hid (iF n s2=((ts++[x])++(iF g st1).1,(iF g st1).2)):=by
    show _=_;rw[HEq.out,iF,hx,List.append_assoc];rfl
   have htx:=OX p q st wr.drew hF.rd;rw[hx] at htx;have HTx:=hide htx;have HAv:=hide hav;have HBx:=hide hbx;have Jl:=hide hres;have HTn:=hide hTn;clear hF hav hbx hres hTn htx hx HEq HW;go_wp2;refine wp_region_held_drew (S:=fun _=>True) (by kernel_rfl) trivial (fun hHeld=> ?_);refine ak (i:=0) (d:=some 11) (v:= ?_) rfl rfl hHeld ?_ ?_;rotate_left;focus intro w hSw;(try dsimp only at hSw);go_simp;try with_reducible rfl
   simp only[aK,aL,aze,asu];refine ak (i:=2) (d:=some 13) (v:= ?_) rfl rfl hHeld ?_ ?_;rotate_left;focus intro w hSw;(try dsimp only at hSw);go_simp;try with_reducible rfl
   simp only[aK,aL,aze,asu];refine wpAnyH_ready (rs:=[1,3]) (by kernel_rfl) (by simp) ?_;refine AllReadyH.cons rfl (fun K' hK=> ?gL) (AllReadyH.cons rfl (fun K' hK=> ?gC) AllReadyH.nil)
   case' gC=>
    go_simp;refine HTx.out.mono ?_;rintro e w5 ⟨rfl,hR5,hT5⟩;have rJ:w5.heap[B]?=some (.cells #[.string nm,.slice aa an ac] 27 (0,0)):=by rw[hT5.block B RD (by omega)];exact HBx.out
    have l5:=(FR rJ).2.1;have l6:(w5.alloc (.cells #[.string x] 9)).cell? ⟨B,1,none⟩=some (.slice aa an ac):=by
     have h6:(w5.alloc (.cells #[.string x] 9)).heap[B]?=some (.cells #[.string nm,.slice aa an ac] 27 (0,0)):=by
      rw[Below.heap_alloc w5 _ B (FR rJ).2.2.2.2];exact rJ
     exact(FR h6).2.1
    refine hK.out _ _ trivial (fun hHeld=> ?_);clear hK K';refine wpAnyH_ready (rs:=[1,4]) (by kernel_rfl) (by simp) ?_;refine AllReadyH.cons rfl (fun K' hK=> ?gCL) (AllReadyH.cons rfl (fun K' hK=> ?gCB) AllReadyH.nil)
    case' gCL=>
     go_simp;refine hK.out _ _ trivial (fun hHeld=> ?_);clear hK K';refine wpAnyH_ready (rs:=[4]) (by kernel_rfl) (by simp) ?_;refine AllReadyH.cons rfl (fun K' hK=> ?_) AllReadyH.nil;go_simp;refine hK.out _ _ trivial (fun hHeld=> ?_);clear hK K' l5 l6
    case' gCB=>
     go_simp;refine hK.out _ _ trivial (fun hHeld=> ?_);clear hK K';refine wpAnyH_ready (rs:=[1]) (by kernel_rfl) (by simp) ?_;refine AllReadyH.cons rfl (fun K' hK=> ?_) AllReadyH.nil;go_simp;refine hK.out _ _ trivial (fun hHeld=> ?_);clear hK K' l5 l6
   case' gL=>
    go_simp;refine hK.out _ _ trivial (fun hHeld=> ?_);clear hK K';refine wpAnyH_ready (rs:=[3]) (by kernel_rfl) (by simp) ?_;refine AllReadyH.cons rfl (fun K' hK=> ?_) AllReadyH.nil;go_simp;refine HTx.out.mono ?_;rintro e w5 ⟨rfl,hR5,hT5⟩;have rJ:w5.heap[B]?=some (.cells #[.string nm,.slice aa an ac] 27 (0,0)):=by rw[hT5.block B RD (by omega)];exact HBx.out
    refine hK.out _ _ trivial (fun hHeld=> ?_);clear hK K';refine wpAnyH_ready (rs:=[4]) (by kernel_rfl) (by simp) ?_;refine AllReadyH.cons rfl (fun K' hK=> ?_) AllReadyH.nil;go_simp;refine hK.out _ _ trivial (fun hHeld=> ?_);clear hK K'
   all_goals
    have hz5:wr.heap.size≤w5.heap.size:=hT5.size;have TP:bsK.own 9 (B+1) w5 (.slice aa an ac) ts:=Kind.bR HAv.out (Tn.trans (Tn.of_below (Below.refl _ wr).drew) hT5) (by omega);have hl5:=HTl.out;obtain⟨v6,w6,hrun,hO6,hg6,_,hk6⟩:=zV TP x (by omega) (by omega);obtain⟨a6,n6,c6,rfl⟩:∃a n c,v6=.slice a n c:=by obtain⟨a,c,e⟩:=Kind.bT hO6;exact⟨a,_,c,e⟩
    have hown:∀k,(Value.slice aa an ac).ownBlock=some k→B+1≤k:=fun k e=>(Kind.eT HAv.out e).1;have hblk:∀k,k<w5.heap.size→k<B+1→w6.heap[k]?=w5.heap[k]?:=fun k hk hkb=>
     (hg6.block k (by simp;omega) (fun e=>by have:=hown k e.symm;omega)).trans (Below.heap_alloc w5 _ k hk)
    have hz6:w5.heap.size≤w6.heap.size:=Nat.le_trans (by simp) hg6.size;have Dx:w6.heap[B]?=some (.cells #[.string nm,.slice aa an ac] 27 (0,0)):=(hblk B (FR rJ).2.2.2.2 (by omega)).trans rJ;have AA:w6.heap[w.heap.size]?=some (.cells #[.string ⟨#[]⟩,.slice none 0 0] 27 (0,0)):=by
     rw[hblk _ (by omega) (by omega),hT5.block _ (by show w.heap.size<wr.heap.size;omega) (by omega)];exact Jl.out
    have hR6:RdB w6 p q st1:=hR5.stay hz6 hp fun k hk hkq=>hblk k hk (by omega);have hT6:Tn p w w6:=(HTn.out.trans (Tn.trans (Tn.of_below (Below.refl _ wr).drew) hT5)).grew hg6 fun k e=>by have:=hown k e;omega
    obtain⟨m0,m1,g0,g1,TQ⟩:=FR Dx;have HFin:Hid (NJ w p q B nm st1 (ts++[x]) (w6.setCell ⟨B,1,none⟩ (.slice a6 n6 c6))):=by
     have hT:=(Tn.refl B w6).setCell (x:=⟨B,1,none⟩) (Or.inl rfl) (.slice a6 n6 c6);refine⟨hR6.stay hT.size hp fun k hk hkq=>hT.block k hk (by omega),⟨hT.os.trans hT6.os,hT.tape.trans hT6.tape,hT.output.trans hT6.output,Nat.le_trans hT6.size hT.size,fun k hk hkp=>(hT.block k (by omega) (by omega)).trans (hT6.block k hk hkp)⟩,?_,_,bH (j:=1) Dx _,Kind.bR hO6 hT (by omega)⟩;rw[hT.block _ (by omega) (by omega)];exact AA
    have HRn:=hide hrun;clear TP hrun hO6 hg6 hk6 hown hblk Dx AA hR6 hT6 hR5 hT5 rJ;refine wpAnyH_ready (rs:=[5]) (by kernel_rfl) (by simp) ?_;refine tF (i:=5) rfl rfl rfl (.tmp 12) (.tmp 15) 25 25 rfl rfl _ _ _ _ rfl rfl HRn.out trivial (fun hHeld=> ?_) AllReadyH.nil;refine ak (i:=6) (d:=some 17) (v:= ?_) rfl rfl hHeld ?_ ?_;rotate_left;focus intro w hSw;(try dsimp only at hSw);go_simp;try with_reducible rfl
    simp only[aK];refine wpAnyH_ready (rs:=[7]) (by kernel_rfl) (by simp) ?_;refine AllReadyH.cons rfl (fun K' hK=> ?_) AllReadyH.nil;go_simp;refine hK.out _ _ trivial (fun hHeld=> ?_);clear hK K' hHeld;refine wpAnyH_done (by kernel_rfl) ?_ _;go_wp2
    go_roundg g
    case measure=>omega
    case rel=>exact⟨j+1,by omega,by go_num,by rw[size_setCell];omega,ts++[x],st1,(by show _=_;rw[List.length_append,hl5];rfl),HE1,HFin⟩
  ·have hg0:gk=0:=by omega
   subst hg0;have hE:iF n s2=(ts,st):=by have:=HEq.out;rw[this];simp[iF]
   have HE:=hide hE;obtain⟨r0,r1,f2,f3,_⟩:=FR hres;have HAv:=hide hav;have Jl:=hide hres;have HTn:=hide hTn;have HRd:=hide hF.rd;clear hE hF hav hres hTn HEq HW hbx;go_wp2;have hT:Tn w.heap.size wr ((wr.setCell ⟨w.heap.size,0,none⟩ (.string nm)).setCell ⟨w.heap.size,1,none⟩ (.slice aa an ac)):=(Tn.two wr w.heap.size (.string nm) (.slice aa an ac)).2;have hrow:=bH (j:=1) (bH (j:=0) Jl.out (.string nm)) (.slice aa an ac);obtain⟨q0,q1,_⟩:=FR hrow;refine bodyPost_ret (v:=.agg #[.string nm,.slice aa an ac]) (by simp[results,Tryz.results200,go_sem,q0,q1]) rfl ⟨.slice aa an ac,?_,?_,?_,?_⟩
   ·rw[HF.out]
   ·rw[HF.out,HE.out];exact MJ (Kind.bR HAv.out hT (by omega)) (by omega)
   ·rw[HF.out,HE.out];exact HRd.out.stay hT.size hp fun k hk hkq=>hT.block k hk (by omega)
   ·have h1:=HTn.out;exact⟨hT.os.trans h1.os,hT.tape.trans h1.tape,hT.output.trans h1.output,Nat.le_trans h1.size hT.size,fun k hk hkp=>(hT.block k (by have:=h1.size;omega) (by omega)).trans (h1.block k hk hkp)⟩
end Go.Proofs.YtafmbokfkbccaaaGreatDoor
namespace Go.Proofs.YtafmbokfkbccaaaGreatDoor
open Go.RowKit Go.Sort
theorem bY.get {base:Nat} {w:World} {a:Option Addr} {n c:Nat} {l:List aI} (h:bY w base (.slice a n c) l) {i:Nat} {f:aI} (hi:l[i]?=some f):
  ∃g s,a=some ⟨g,0,none⟩∧base≤g∧g<w.heap.size∧w.cell? ⟨g,i*2,none⟩=some (.string f.1)∧w.cell? ⟨g,i*2+1,none⟩=some s∧Strs w s f.2∧∀k,s.ownBlock=some k→base≤k∧k<w.heap.size:=by
 obtain⟨xs,ho,hx⟩:=h;have hlt:=(List.getElem?_eq_some_iff.1 hi).1;obtain⟨c1,s,c2,c3,c4⟩:=hx i hlt;have e:l.getD i aC=f:=by rw[List.getD_eq_getElem?_getD,hi];rfl
 rw[e] at c1 c3;rcases ho.2 with⟨_,e0⟩|⟨g,cap,cur,e1,hbg,hg,_⟩
 ·omega
 ·simp only[Value.slice.injEq] at e1;obtain⟨rfl,rfl,rfl⟩:=e1;refine⟨g,s,rfl,hbg,(Array.getElem?_eq_some_iff.1 hg).1,?_,?_,c3,fun k hk=>⟨(c4 k hk).1,(c4 k hk).2.1⟩⟩
  ·have:=ho.cells (g:=g) rfl _ _ c1;rw[Addr.add_lit,Nat.zero_add] at this;exact this
  ·have:=ho.cells (g:=g) rfl _ _ c2;rw[Addr.add_lit,Nat.zero_add] at this;exact this
def y8 (b Z:Nat) (w:World) (v:Value) (l:List aI):Prop:=
 ∃xs,w.ownsRow Z 27 2 v l.length xs∧∀i f,l[i]?=some f→xs[i*2]?=some (.string f.1)∧∃s,xs[i*2+1]?=some s∧Strs w s f.2∧(∀k,s.ownBlock=some k→b≤k∧k<Z)
theorem y8.nil (b Z:Nat) (w:World):y8 b Z w (.slice none 0 0) []:=⟨[],World.ownsRow_nil w _ _ _,fun i f h=>by simp at h⟩
theorem y8.slice {b Z:Nat} {w:World} {v:Value} {l:List aI} (h:y8 b Z w v l):∃a cap,v=.slice a l.length cap:=by
 obtain⟨xs,ho,_⟩:=h;rcases ho.2 with⟨rfl,e⟩|⟨g,cap,cur,rfl,_⟩
 ·exact⟨none,0,by rw[e]⟩
 ·exact⟨_,cap,rfl⟩
theorem y8.lt {b Z:Nat} {w:World} {v:Value} {l:List aI} (h:y8 b Z w v l) {k:Nat} (hk:v.ownBlock=some k):Z≤k∧k<w.heap.size:=by
 obtain⟨xs,ho,_⟩:=h;exact ho.lt k hk
theorem y8.stay {b Z:Nat} {w w':World} {v:Value} {l:List aI} (h:y8 b Z w v l) (hb:b≤Z) (hs:w.heap.size≤w'.heap.size) (hk:∀k,k<w.heap.size→b≤k→w'.heap[k]?=w.heap[k]?):y8 b Z w' v l:=by
 obtain⟨xs,ho,hx⟩:=h;refine⟨xs,⟨ho.1,?_⟩,fun i f hi=> ?_⟩
 ·rcases ho.2 with e|⟨g,cap,cur,rfl,hbg,hg,r⟩
  ·exact Or.inl e
  ·exact Or.inr ⟨g,cap,cur,rfl,hbg,by rw[hk g (Array.getElem?_eq_some_iff.1 hg).1 (by omega)];exact hg,r⟩
 ·obtain⟨c1,s,c2,c3,c4⟩:=hx i f hi;exact⟨c1,s,c2,c3.kept' hs fun j hj e=>hk j hj (c4 j e).1,c4⟩
theorem y8.facts {b Z:Nat} {w:World} {v:Value} {l:List aI} (h:y8 b Z w v l) (hl:l.length≤3518437208883):Facts w v l:=by
 obtain⟨xs,ho,hx⟩:=h;rcases ho.2 with⟨rfl,e⟩|⟨g,cap,cur,rfl,hbg,hg,_⟩
 ·have:l=[]:=List.eq_nil_of_length_eq_zero e;subst this;exact⟨hl,none,0,rfl,fun e=>absurd rfl e⟩
 ·refine⟨hl,_,cap,rfl,fun _=>⟨g,0,rfl,(Array.getElem?_eq_some_iff.1 hg).1,fun i hi=> ?_⟩⟩;obtain⟨c1,s,c2,c3,_⟩:=hx i _ (List.getElem?_eq_getElem hi);have cellOf:∀j u,xs[j]?=some u→w.cell? ⟨g,0+j,none⟩=some u:=fun j u hu=>by
   have:=ho.cells (g:=g) rfl j u hu
   rwa [Addr.add_lit] at this
  rw[List.getD_eq_getElem?_getD,List.getElem?_eq_getElem hi];exact⟨cellOf _ _ c1,s,by rw[Nat.add_assoc];exact cellOf _ _ c2,c3⟩
theorem y8.append {b Z:Nat} {w:World} {v:Value} {l:List aI} (h:y8 b Z w v l) (f:aI) (s:Value) (hs:Strs w s f.2) (hsb:∀k,s.ownBlock=some k→b≤k∧k<Z) (hl:l.length+1≤3518437208883) (hZ:Z≤w.heap.size) (h1:s.oneCell'=true):
  ∃v' w',(Builtin.append_ #[24,24] 24 #[v,.slice (some ⟨w.heap.size,0,none⟩) 1 1]).run Tryz.prog (w.alloc (.cells #[.string f.1,s] 27))=.ok v' w'∧y8 b Z w' v' (l++[f])∧(w.alloc (.cells #[.string f.1,s] 27)).grownBy w' v.ownBlock:=by
 have hv:=fun k=>h.lt (k:=k);obtain⟨xs,ho,hx⟩:=h;obtain⟨i,i1,i2,i3,i4⟩:=oK;obtain⟨v',w',hrun,r1,r2,r3,r4⟩:=dY (P:=Tryz.prog) (w.alloc (.cells #[.string f.1,s] 27)) Z 24 24 27 i _ 2 40 Tryz.underlying24 i1 i2 i3 i4 rfl (by omega) v l.length xs (ho.alloc _) ⟨w.heap.size,0,none⟩ 1 1 [.string f.1,s] rfl
  (fun j u hu=>by
   rw[Addr.add_lit,Nat.zero_add,cell_of_row _ w.heap.size j #[.string f.1,s] 27 (0,0) (heap_alloc_new w _)];simpa using hu)
  (by intro u hu;simp at hu;rcases hu with rfl|rfl <;> first|rfl|exact h1) (by simp only[maxLen];omega) (by omega) (by simp;omega)
 have hxl:xs.length=l.length*2:=ho.1;have keep:∀{s':Value} {a:List ByteArray},Strs w s' a→(∀k,s'.ownBlock=some k→k<Z)→Strs w' s' a:=fun hs' hne=>
  hs'.kept' (Nat.le_trans (by simp) r2.size) fun k hk e=>(r2.block k (by simp;omega) (fun e'=>by have:=hne k e;have:=(hv k e'.symm).1;omega)).trans (Below.heap_alloc w _ k hk)
 refine⟨v',w',hrun,⟨xs++[.string f.1,s],by simpa using r1,fun j g hj=> ?_⟩,r2⟩
 by_cases hjl:j<l.length
 ·rw[List.getElem?_append_left hjl] at hj;obtain⟨c1,s',c2,c3,c4⟩:=hx j g hj;exact⟨by rw[List.getElem?_append_left (by omega)];exact c1,s',by rw[List.getElem?_append_left (by omega)];exact c2,keep c3 fun k e=>(c4 k e).2,c4⟩
 ·rw[List.getElem?_append_right (by omega)] at hj;have hj':j=l.length:=by
   have:=(List.getElem?_eq_some_iff.1 hj).1;simp at this;omega
  subst hj';simp at hj;subst hj;exact⟨by rw[List.getElem?_append_right (by omega),hxl];simp,s,by rw[List.getElem?_append_right (by omega),hxl];simp,keep hs fun k e=>(hsb k e).2,hsb⟩
theorem MK {a b:Nat} (ha:a<256) (hb:b<256):bits .or .i64 ((a:Int)*256) (b:Int)=256*(a:Int)+b:=by
 have e:((a:Int)*256)=((a*256:Nat):Int):=by omega
 have ho:∀n:Nat,n<65536→(BitVec.ofInt 64 (n:Int)).toNat=n:=fun n hn=>by
  rw[BitVec.ofInt_natCast,BitVec.toNat_ofNat];exact Nat.mod_eq_of_lt (by omega)
 show IntKind.i64.wrap ((BitVec.ofInt 64 ((a:Int)*256)|||BitVec.ofInt 64 (b:Int)).toNat:Int)=_;rw[e,BitVec.toNat_or,ho _ (by omega),ho _ (by omega)];have h2:a*256|||b=a*256+b:=by
  have:=Nat.shiftLeft_add_eq_or_of_lt (i:=8) (b:=b) (by omega) a;rw[Nat.shiftLeft_eq] at this;exact this.symm
 rw[h2,IntKind.wrap_i64];omega
structure RF (w:World) (p q B:Nat) (lv ro:Int) (dn:Bool) (s:RdS) (ks:List au) (wr:World):Prop where
 rd:RdB wr p q s
 tn:Tn p w wr
 res:wr.heap[w.heap.size]?=some (.cells #[.slice none 0 0,.slice none 0 0,.int .i64 0,.int .i64 0,.bool false] 47 (0,0))
 box:∃kv,wr.heap[B]?=some (.cells #[kv,.slice none 0 0,.int .i64 lv,.int .i64 ro,.bool dn] 47 (0,0))∧bY wr (B+1) kv ks
structure Qp (w wK:World) (p q B:Nat) (lv ro:Int) (dn:Bool) (kv:Value) (s:RdS) (N:List au) (wr:World):Prop where
 rd:RdB wr p q s
 tn:Tn p w wr
 res:wr.heap[w.heap.size]?=some (.cells #[.slice none 0 0,.slice none 0 0,.int .i64 0,.int .i64 0,.bool false] 47 (0,0))
 size:wK.heap.size≤wr.heap.size
 keep:∀k,k<wK.heap.size→B+1≤k→wr.heap[k]?=wK.heap[k]?
 box:∃nv,wr.heap[B]?=some (.cells #[kv,nv,.int .i64 lv,.int .i64 ro,.bool dn] 47 (0,0))∧y8 (B+1) wK.heap.size wr nv N
theorem EM {l:List au} {j:Nat} {f:au} (h:l[j]?=some f) (s:RdS):iR (l.drop j) s=(if(lM s).1 then f::(iR (l.drop (j+1)) (lM s).2).1 else(iR (l.drop (j+1)) (lM s).2).1,(iR (l.drop (j+1)) (lM s).2).2):=by
 have hlt:=(List.getElem?_eq_some_iff.1 h).1;have e:l[j]=f:=(List.getElem?_eq_some_iff.1 h).2;rw[List.drop_eq_getElem_cons hlt,e,iR]
theorem EN (s:RdS):(rE s).1.2.length<256:=by
 show(iF _ _).1.length<256;rw[wX];exact lH _
theorem wY:∀(n:Nat) (s:RdS),(gV n s).1.length=n
 |0,_=>rfl
 |n+1,s=>by rw[gV,List.length_cons,wY n]
theorem AB:∀(l:List au) (s:RdS),(iR l s).1.length≤l.length
 |[],_=>Nat.le_refl _
 |f::l,s=>by
  have:=AB l (lM s).2;unfold iR;dsimp only;split <;> simp <;> omega
set_option maxRecDepth 100000 in
set_option maxHeartbeats 2000000 in
theorem RG (p q:Nat) (s:RdS) (w:World) (h:RdB w p q s) (hp:p<q) (hq:q≤w.heap.size):
  Calls Tryz.prog 132 #[.pointer (some ⟨p,0,none⟩)] w fun e w'=>∃v,e=.returned v∧oh w.heap.size w' v (BD s).1∧RdB w' p q (BD s).2∧Tn p w w':=by
 obtain⟨w1,hw1⟩:∃w1,w1=w.alloc (.cells #[.slice none 0 0,.slice none 0 0,.int .i64 0,.int .i64 0,.bool false] 47):=⟨_,rfl⟩;have hL1:Later w w1:=by rw[hw1];exact(Later.refl w).alloc _
 have hr1:w1.heap[w.heap.size]?=some (.cells #[.slice none 0 0,.slice none 0 0,.int .i64 0,.int .i64 0,.bool false] 47 (0,0)):=by rw[hw1];exact heap_alloc_new w _
 obtain⟨n1,s1,h1⟩:∃t s1,nU s=(t,s1):=⟨_,_,rfl⟩;obtain⟨n2,s2,h2⟩:∃t s2,nU s1=(t,s2):=⟨_,_,rfl⟩;obtain⟨n3,s3,h3⟩:∃t s3,nU s2=(t,s3):=⟨_,_,rfl⟩;obtain⟨dn,s4,h4⟩:∃t s4,lM s3=(t,s4):=⟨_,_,rfl⟩;obtain⟨n5,s5,h5⟩:∃t s5,nU s4=(t,s5):=⟨_,_,rfl⟩;have HX:Hid (BD s=(⟨(gV n5 s5).1,(iR (gV n5 s5).1 (gV n5 s5).2).1,n1,256*n2+n3,dn⟩,(iR (gV n5 s5).1 (gV n5 s5).2).2)):=by
  show _=_;simp only[BD,Cb,h1,h2,h3,h4,h5]
 have l1:=lH s;have l2:=lH s1;have l3:=lH s2;have l5:=lH s4;rw[h1] at l1;rw[h2] at l2;rw[h3] at l3;rw[h5] at l5;have l1:n1<256:=l1;have l2:n2<256:=l2;have l3:n3<256:=l3;have l5:n5<256:=l5;have c1:=om p q s w1 (h.below hL1.below);rw[h1] at c1;have HC1:=hide c1;have HC2:Hid (∀w,RdB w p q s1→Calls Tryz.prog 198 #[.pointer (some ⟨p,0,none⟩)] w fun e w'=>e=.returned (.int .i64 (n2:Nat))∧RdB w' p q s2∧Tn p w w'):=fun w h=>by
  have:=om p q s1 w h;rw[h2] at this;exact this
 have HC3:Hid (∀w,RdB w p q s2→Calls Tryz.prog 198 #[.pointer (some ⟨p,0,none⟩)] w fun e w'=>e=.returned (.int .i64 (n3:Nat))∧RdB w' p q s3∧Tn p w w'):=fun w h=>by
  have:=om p q s2 w h;rw[h3] at this;exact this
 have HC4:Hid (∀w,RdB w p q s3→Calls Tryz.prog 199 #[.pointer (some ⟨p,0,none⟩)] w fun e w'=>e=.returned (.bool dn)∧RdB w' p q s4∧Tn p w w'):=fun w h=>by
  have:=Lb p q s3 w h;rw[h4] at this;exact this
 have HC5:Hid (∀w,RdB w p q s4→Calls Tryz.prog 198 #[.pointer (some ⟨p,0,none⟩)] w fun e w'=>e=.returned (.int .i64 (n5:Nat))∧RdB w' p q s5∧Tn p w w'):=fun w h=>by
  have:=om p q s4 w h;rw[h5] at this;exact this
 have HW1:=hide hw1;have HR1:=hide hr1;have HL1:=hide hL1;clear h hw1 hL1 hr1 h1 h2 h3 h4 h5 c1
 go_enter Tryz.func132,Tryz.ntmps132
 go_wp2_with (first|(rw[←HW1.out])|fail)
 refine HC1.out.mono ?_;rintro e w2 ⟨rfl,hR2,hT2⟩;have hlt1:=(Array.getElem?_eq_some_iff.1 HR1.out).1;obtain⟨w3,hw3⟩:∃w3,w3=w2.alloc (.cells #[.slice none 0 0,.slice none 0 0,.int .i64 n1,.int .i64 0,.bool false] 47):=⟨_,rfl⟩;have hL3:Later w2 w3:=by rw[hw3];exact(Later.refl w2).alloc _
 have hr3:w3.heap[w2.heap.size]?=some (.cells #[.slice none 0 0,.slice none 0 0,.int .i64 n1,.int .i64 0,.bool false] 47 (0,0)):=by rw[hw3];exact heap_alloc_new w2 _
 have VK:=HL1.out.size;have hsz2:=hT2.size;have hres2:w2.heap[w.heap.size]?=some (.cells #[.slice none 0 0,.slice none 0 0,.int .i64 0,.int .i64 0,.bool false] 47 (0,0)):=by
  rw[hT2.block _ hlt1 (by omega)];exact HR1.out
 have OZ:Tn p w w2:=(Tn.of_below HL1.out.below).trans hT2;have HN:=hide (HC2.out w3 (RdB.below hR2 hL3.below));have HS3:=hide ((hL3.block (Array.getElem?_eq_some_iff.1 hres2).1).trans hres2);have HT3:=hide (OZ.trans (Tn.of_below (p:=p) hL3.below));have HR3:=hide hr3;have HW3:=hide hw3;have hB2:w.heap.size<w2.heap.size:=by omega
 clear hR2 hT2 hw3 hL3 hr3 hres2 OZ HC1 HC2 HW1 HR1
 go_wp2_with (first|(rw[←HW3.out])|fail)
 refine HN.out.mono ?_;rintro e w4 ⟨rfl,hR4,hT4⟩;have hlt3:=(Array.getElem?_eq_some_iff.1 HR3.out).1;have HN3:=hide (HC3.out w4 hR4);have HS4:Hid (w4.heap[w.heap.size]?=_):=(hT4.block _ (by omega) (by omega)).trans HS3.out;have HB4:Hid (w4.heap[w2.heap.size]?=_):=(hT4.block _ hlt3 (by omega)).trans HR3.out;have HT4:=hide (HT3.out.trans hT4);have hz4:=hT4.size;clear hR4 hT4 HN HS3 HR3 HT3 HW3 HC3;generalize w2.heap.size=B at*
 go_wp2_with fail
 refine HN3.out.mono ?_;rintro e w5 ⟨rfl,hR5,hT5⟩;have rJ:=(hT5.block _ (by omega) (by omega)).trans HB4.out;obtain⟨b0,b1,b2,b3,b4,⟨f0,f1,f2,f3,f4⟩,RD⟩:=dR rJ;have hor:=MK l2 l3;have HR5:=hide hR5;have HT5:=hide (HT4.out.trans hT5);have HB5:=hide rJ;have HS5:Hid (w5.heap[w.heap.size]?=_):=(hT5.block _ (by omega) (by omega)).trans HS4.out;have hz5:=hT5.size;obtain⟨w6,hw6⟩:∃w6,w6=w5.setCell ⟨B,3,none⟩ (.int .i64 (256*(n2:Int)+n3)):=⟨_,rfl⟩;have hT6:Tn B w5 w6:=by rw[hw6];exact(Tn.refl B w5).setCell (Or.inl rfl) _
 have Dx:w6.heap[B]?=some (.cells #[.slice none 0 0,.slice none 0 0,.int .i64 n1,.int .i64 (256*(n2:Int)+n3),.bool false] 47 (0,0)):=by rw[hw6,bH (j:=3) HB5.out _];rfl
 have hR6:RdB w6 p q s3:=HR5.out.stay hT6.size hp fun k hk hkq=>hT6.block k hk (by omega);have HN6:=hide (HC4.out w6 hR6);have HS6:Hid (w6.heap[w.heap.size]?=_):=(hT6.block _ (by omega) (by omega)).trans HS5.out;have hbelow:∀a b:World,Tn p w a→Tn B a b→w.heap.size≤a.heap.size→Tn p w b:=fun a b h1 h2 hs=>
  ⟨h2.os.trans h1.os,h2.tape.trans h1.tape,h2.output.trans h1.output,Nat.le_trans h1.size h2.size,fun k hk hkp=>(h2.block k (by omega) (by omega)).trans (h1.block k hk hkp)⟩
 have HT6:=hide (hbelow _ _ HT5.out hT6 (by omega));have HB6:=hide Dx;have hz6:=hT6.size;have HW6:=hide hw6;clear hR5 hT5 rJ HN3 HS4 HB4 HT4 hR6 hT6 Dx hw6 HC4 HR5 HT5 HB5 HS5
 go_wp2_with (first|(rw[←HW6.out])|fail)
 refine HN6.out.mono ?_;rintro e w7 ⟨rfl,hR7,hT7⟩;clear b0 b1 b2 b3 b4 f0 f1 f2 f3 f4;have Lc:=(hT7.block _ (by omega) (by omega)).trans HB6.out;obtain⟨b0,b1,b2,b3,b4,⟨f0,f1,f2,f3,f4⟩,_⟩:=dR Lc;obtain⟨w8,hw8⟩:∃w8,w8=w7.setCell ⟨B,4,none⟩ (.bool dn):=⟨_,rfl⟩;have hT8:Tn B w7 w8:=by rw[hw8];exact(Tn.refl B w7).setCell (Or.inl rfl) _
 have O0:w8.heap[B]?=some (.cells #[.slice none 0 0,.slice none 0 0,.int .i64 n1,.int .i64 (256*(n2:Int)+n3),.bool dn] 47 (0,0)):=by rw[hw8,bH (j:=4) Lc _];rfl
 have hz7:=hT7.size;have hz8:=hT8.size;have hR8:RdB w8 p q s4:=hR7.stay hT8.size hp fun k hk hkq=>hT8.block k hk (by omega);have HN8:=hide (HC5.out w8 hR8);have HS8:Hid (w8.heap[w.heap.size]?=_):=(hT8.block _ (by omega) (by omega)).trans ((hT7.block _ (by omega) (by omega)).trans HS6.out);have HT8:=hide (hbelow _ _ (HT6.out.trans hT7) hT8 (by omega));have HB8:=hide O0;have HW8:=hide hw8;have RH:=hide hbelow;clear hR7 hT7 Lc hw8 hT8 O0 hR8 HN6 HS6 HT6 HB6 HW6 HC5 hbelow
 go_wp2_with (first|(rw[←HW8.out])|fail)
 refine HN8.out.mono ?_;rintro e w9 ⟨rfl,hR9,hT9⟩;clear b0 b1 b2 b3 b4 f0 f1 f2 f3 f4;have hz9:=hT9.size;have HF0:Hid (RF w p q B n1 (256*(n2:Int)+n3) dn s5 [] w9):=⟨hR9,HT8.out.trans hT9,(hT9.block _ (by omega) (by omega)).trans HS8.out,.slice none 0 0,(hT9.block _ (by omega) (by omega)).trans HB8.out,bY.nil _ _⟩;clear hR9 hT9 HN8 HS8 HT8 HB8 HW8 hor;generalize hro:256*(n2:Int)+n3=ro at*;have HRo:=hide hro;clear hro l2 l3;dsimp only;go_wp2
 go_loopg [23] n5 (fun g i wr=>∃j:Nat,j+g=n5∧i=.int .i64 j∧B<wr.heap.size∧∃ks st,Hid (ks.length=j)∧Hid (gV n5 s5=(ks++(gV g st).1,(gV g st).2))∧Hid (RF w p q B n1 ro dn st ks wr))
 case atStart=>exact⟨0,by omega,rfl,by omega,[],s5,(rfl:_=_),(rfl:_=_),HF0⟩
 case round=>
  clear HF0;obtain⟨j,hj,rfl,hBw,ks,st,HTl,HEq,HW⟩:=hrel;have hF:=HW.out;obtain⟨kv,hbx,hkv⟩:=hF.box;have hres:=hF.res;have hTn:=hF.tn;obtain⟨b0,b1,b2,b3,b4,⟨f0,f1,f2,f3,f4⟩,He⟩:=dR hbx;obtain⟨aa,an,ac,rfl⟩:∃a n c,kv=.slice a n c:=by obtain⟨a,c,e⟩:=hkv.slice;exact⟨a,_,c,e⟩
  by_cases hlt:j<n5
  ·obtain⟨g,rfl⟩:∃g,gk=g+1:=⟨gk-1,by omega⟩;obtain⟨x,st1,hx⟩:∃x st1,rE st=(x,st1):=⟨_,_,rfl⟩;have HE1:Hid (gV n5 s5=((ks++[x])++(gV g st1).1,(gV g st1).2)):=by
    show _=_;rw[HEq.out,gV,hx,List.append_assoc];rfl
   have HXl:Hid (x.2.length<256):=by have:=EN st;rw[hx] at this;exact this
   have htx:=OY p q st wr.drew hF.rd hp (by show q≤wr.heap.size;omega);rw[hx] at htx;have HTx:=hide htx;have HKv:=hide hkv;have HBx:=hide hbx;have Jl:=hide hres;have HTn:=hide hTn;clear hF hkv hbx hres hTn htx hx HEq HW;go_wp2;refine wp_region_held_drew (S:=fun _=>True) (by kernel_rfl) trivial (fun hHeld=> ?_);refine ak (i:=0) (d:=some 25) (v:= ?_) rfl rfl hHeld ?_ ?_;rotate_left;focus intro w hSw;(try dsimp only at hSw);go_simp;try with_reducible rfl
   simp only[aK,aL,aze,asu];refine ak (i:=2) (d:=some 27) (v:= ?_) rfl rfl hHeld ?_ ?_;rotate_left;focus intro w hSw;(try dsimp only at hSw);go_simp;try with_reducible rfl
   simp only[aK,aL,aze,asu];refine wpAnyH_ready (rs:=[1,3]) (by kernel_rfl) (by simp) ?_;refine AllReadyH.cons rfl (fun K' hK=> ?gL) (AllReadyH.cons rfl (fun K' hK=> ?gC) AllReadyH.nil)
   case' gC=>
    go_simp;refine HTx.out.mono ?_;rintro e w5 ⟨sv,rfl,hsv,hR5,hT5⟩;obtain⟨sa,sn,sc,rfl⟩:∃a n c,sv=.slice a n c:=by obtain⟨a,c,e⟩:=Kind.bT hsv;exact⟨a,_,c,e⟩
    have rJ:w5.heap[B]?=some (.cells #[.slice aa an ac,.slice none 0 0,.int .i64 n1,.int .i64 ro,.bool dn] 47 (0,0)):=by rw[hT5.block B He (by omega)];exact HBx.out
    have l5':=(dR rJ).1;have l6':(w5.alloc (.cells #[.string x.1,.slice sa sn sc] 27)).cell? ⟨B,0,none⟩=some (.slice aa an ac):=by
     have h6:(w5.alloc (.cells #[.string x.1,.slice sa sn sc] 27)).heap[B]?=some (.cells #[.slice aa an ac,.slice none 0 0,.int .i64 n1,.int .i64 ro,.bool dn] 47 (0,0)):=by
      rw[Below.heap_alloc w5 _ B (dR rJ).2.2.2.2.2.2];exact rJ
     exact(dR h6).1
    refine hK.out _ _ trivial (fun hHeld=> ?_);clear hK K';refine wpAnyH_ready (rs:=[1,4]) (by kernel_rfl) (by simp) ?_;refine AllReadyH.cons rfl (fun K' hK=> ?gCL) (AllReadyH.cons rfl (fun K' hK=> ?gCB) AllReadyH.nil)
    case' gCL=>
     go_simp;refine hK.out _ _ trivial (fun hHeld=> ?_);clear hK K';refine wpAnyH_ready (rs:=[4]) (by kernel_rfl) (by simp) ?_;refine AllReadyH.cons rfl (fun K' hK=> ?_) AllReadyH.nil;go_simp;refine hK.out _ _ trivial (fun hHeld=> ?_);clear hK K' l5' l6'
    case' gCB=>
     go_simp;refine hK.out _ _ trivial (fun hHeld=> ?_);clear hK K';refine wpAnyH_ready (rs:=[1]) (by kernel_rfl) (by simp) ?_;refine AllReadyH.cons rfl (fun K' hK=> ?_) AllReadyH.nil;go_simp;refine hK.out _ _ trivial (fun hHeld=> ?_);clear hK K' l5' l6'
   case' gL=>
    go_simp;refine hK.out _ _ trivial (fun hHeld=> ?_);clear hK K';refine wpAnyH_ready (rs:=[3]) (by kernel_rfl) (by simp) ?_;refine AllReadyH.cons rfl (fun K' hK=> ?_) AllReadyH.nil;go_simp;refine HTx.out.mono ?_;rintro e w5 ⟨sv,rfl,hsv,hR5,hT5⟩;obtain⟨sa,sn,sc,rfl⟩:∃a n c,sv=.slice a n c:=by obtain⟨a,c,e⟩:=Kind.bT hsv;exact⟨a,_,c,e⟩
    have rJ:w5.heap[B]?=some (.cells #[.slice aa an ac,.slice none 0 0,.int .i64 n1,.int .i64 ro,.bool dn] 47 (0,0)):=by rw[hT5.block B He (by omega)];exact HBx.out
    refine hK.out _ _ trivial (fun hHeld=> ?_);clear hK K';refine wpAnyH_ready (rs:=[4]) (by kernel_rfl) (by simp) ?_;refine AllReadyH.cons rfl (fun K' hK=> ?_) AllReadyH.nil;go_simp;refine hK.out _ _ trivial (fun hHeld=> ?_);clear hK K'
   all_goals
    have VL:wr.heap.size≤w5.heap.size:=hT5.size;have EO:Tn p wr w5:=Tn.trans (Tn.of_below (Below.refl _ wr).drew) hT5;have TR:bY w5 (B+1) (.slice aa an ac) ks:=HKv.out.stay EO.size fun k hk hkb=>EO.block k hk (by omega);have hl5:=HTl.out;have O1:Strs w5 (.slice sa sn sc) x.2:=Dk hsv (by have:=HXl.out;omega);have TS:∀k,(Value.slice sa sn sc).ownBlock=some k→B+1≤k∧k<w5.heap.size∧(Value.slice aa an ac).ownBlock≠some k:=fun k e=>by
     have h1:wr.heap.size≤k∧k<w5.heap.size:=Kind.eT hsv e;exact⟨by omega,h1.2,fun e'=>by have:=(HKv.out.lt e').2;omega⟩
    obtain⟨v6,w6,hrun,hO6,hg6,_⟩:=bY.append TR x (.slice sa sn sc) O1 TS (by omega) (by omega) rfl;obtain⟨a6,n6,c6,rfl⟩:∃a n c,v6=.slice a n c:=by obtain⟨a,c,e⟩:=hO6.slice;exact⟨a,_,c,e⟩
    have hown:∀k,(Value.slice aa an ac).ownBlock=some k→B+1≤k:=fun k e=>(HKv.out.lt e).1;have hblk:∀k,k<w5.heap.size→k<B+1→w6.heap[k]?=w5.heap[k]?:=fun k hk hkb=>
     (hg6.block k (by simp;omega) (fun e=>by have:=hown k e.symm;omega)).trans (Below.heap_alloc w5 _ k hk)
    have RI:w5.heap.size≤w6.heap.size:=Nat.le_trans (by simp) hg6.size;have Dx:w6.heap[B]?=some (.cells #[.slice aa an ac,.slice none 0 0,.int .i64 n1,.int .i64 ro,.bool dn] 47 (0,0)):=(hblk B (dR rJ).2.2.2.2.2.2 (by omega)).trans rJ;have AA:w6.heap[w.heap.size]?=some (.cells #[.slice none 0 0,.slice none 0 0,.int .i64 0,.int .i64 0,.bool false] 47 (0,0)):=by
     rw[hblk _ (by omega) (by omega),EO.block _ (by omega) (by omega)];exact Jl.out
    have hR6:RdB w6 p q st1:=RdB.stay hR5 RI hp fun k hk hkq=>hblk k hk (by omega);have hT6:Tn p w w6:=(HTn.out.trans EO).grew hg6 fun k e=>by have:=hown k e;omega
    obtain⟨m0,_,_,_,_,⟨g0,_,_,_,_⟩,TQ⟩:=dR Dx;have HFin:Hid (RF w p q B n1 ro dn st1 (ks++[x]) (w6.setCell ⟨B,0,none⟩ (.slice a6 n6 c6))):=by
     have hT:=(Tn.refl B w6).setCell (x:=⟨B,0,none⟩) (Or.inl rfl) (.slice a6 n6 c6);refine⟨hR6.stay hT.size hp fun k hk hkq=>hT.block k hk (by omega),RH.out _ _ hT6 hT (by omega),?_,_,bH (j:=0) Dx _,hO6.stay hT.size fun k hk hkb=>hT.block k hk (by omega)⟩;rw[hT.block _ (by omega) (by omega)];exact AA
    have HRn:=hide hrun;clear TR hrun hO6 hg6 hown hblk Dx AA hR6 hT6 hR5 hT5 EO rJ O1 TS hsv;refine wpAnyH_ready (rs:=[5]) (by kernel_rfl) (by simp) ?_;refine tF (i:=5) rfl rfl rfl (.tmp 26) (.tmp 29) 24 24 rfl rfl _ _ _ _ rfl rfl HRn.out trivial (fun hHeld=> ?_) AllReadyH.nil;refine ak (i:=6) (d:=some 31) (v:= ?_) rfl rfl hHeld ?_ ?_;rotate_left;focus intro w hSw;(try dsimp only at hSw);go_simp;try with_reducible rfl
    simp only[aK];refine wpAnyH_ready (rs:=[7]) (by kernel_rfl) (by simp) ?_;refine AllReadyH.cons rfl (fun K' hK=> ?_) AllReadyH.nil;go_simp;refine hK.out _ _ trivial (fun hHeld=> ?_);clear hK K' hHeld;refine wpAnyH_done (by kernel_rfl) ?_ _;go_wp2
    go_roundg g
    case measure=>omega
    case rel=>exact⟨j+1,by omega,by go_num,by rw[size_setCell];omega,ks++[x],st1,(by show _=_;rw[List.length_append,hl5];rfl),HE1,HFin⟩
  ·have hg0:gk=0:=by omega
   subst hg0;have hE:gV n5 s5=(ks,st):=by have:=HEq.out;rw[this];simp[gV]
   have HX2:Hid (BD s=(⟨ks,(iR ks st).1,n1,ro,dn⟩,(iR ks st).2)):=by
    show _=_;rw[HX.out,hE,←HRo.out]
   have HKs:Hid (ks.length<256):=by have:=HTl.out;show _<_;omega
   have hkn:an=ks.length:=by obtain⟨a,c,e⟩:=hkv.slice;simp only[Value.slice.injEq] at e;exact e.2.1
   subst hkn;have HK:=hide hkv;have HW0:Hid (Qp w wr p q B n1 ro dn (.slice aa ks.length ac) st [] wr):=⟨hF.rd,hTn,hres,Nat.le_refl _,fun _ _ _=>rfl,.slice none 0 0,hbx,y8.nil _ _ _⟩;clear hE hF hkv hbx hres hTn HEq HW HX HRo HTl hj;generalize wr=wK at*;go_wp2;clear b0 b1 b2 b3 b4 f0 f1 f2 f3 f4 hlt
   go_loopg [36] ks.length (fun g i wr=>∃j:Nat,j+g=ks.length∧i=.int .i64 j∧∃st2 N,Hid (N.length≤j)∧Hid (iR ks st=(N++(iR (ks.drop j) st2).1,(iR (ks.drop j) st2).2))∧Hid (Qp w wK p q B n1 ro dn (.slice aa ks.length ac) st2 N wr))
   case atStart=>exact⟨0,by omega,rfl,st,[],(Nat.le_refl _:_≤_),(rfl:_=_),HW0⟩
   case round=>
    clear HW0;obtain⟨j,hj,rfl,st2,N,HNl,HEq,HW⟩:=hrel;have hF:=HW.out;obtain⟨nv,hbx,hnv⟩:=hF.box;have hres:=hF.res;have hTn:=hF.tn;have hzk:=hF.size;obtain⟨b0,b1,b2,b3,b4,⟨f0,f1,f2,f3,f4⟩,He⟩:=dR hbx;obtain⟨ba,bn,bc,rfl⟩:∃a n c,nv=.slice a n c:=by obtain⟨a,c,e⟩:=hnv.slice;exact⟨a,_,c,e⟩
    have hks:=HKs.out
    by_cases hlt:j<ks.length
    ·obtain⟨f,hf⟩:∃f,ks[j]?=some f:=⟨_,List.getElem?_eq_getElem hlt⟩;obtain⟨g0,sv,rfl,hg1,hg2,hc0,hc1,hsv,hsl⟩:=HK.out.get hf;have d0:wr.cell? ⟨g0,j*2,none⟩=some (.string f.1):=by rw[World.cell?_of_block (w:=wK) (a:=⟨g0,j*2,none⟩) (hF.keep g0 hg2 hg1)];exact hc0
     have d1:wr.cell? ⟨g0,j*2+1,none⟩=some sv:=by rw[World.cell?_of_block (w:=wK) (a:=⟨g0,j*2+1,none⟩) (hF.keep g0 hg2 hg1)];exact hc1
     obtain⟨sa,sc,rfl⟩:=aW hsv;obtain⟨fl,st3,hfl⟩:∃fl st3,lM st2=(fl,st3):=⟨_,_,rfl⟩;have hst:=EM hf st2;rw[hfl] at hst;have HSt:=hide hst;obtain⟨wf,hwf⟩:∃wf,wf=wr.alloc (.cells #[.string f.1,.slice sa f.2.length sc] 27):=⟨_,rfl⟩;have hLf:Later wr wf:=by rw[hwf];exact(Later.refl wr).alloc _
     have hRf:wf.heap[wr.heap.size]?=some (.cells #[.string f.1,.slice sa f.2.length sc] 27 (0,0)):=by rw[hwf];exact heap_alloc_new wr _
     have TT:=(Array.getElem?_eq_some_iff.1 hRf).1;have htx:=Lb p q st2 wf (hF.rd.below hLf.below);rw[hfl] at htx;have HTx:=hide htx;have HNv:=hide hnv;have HBx:=hide hbx;have Jl:=hide hres;have HTn:=hide hTn;have HLf:=hide hLf;have HRf:=hide hRf;have HWf:=hide hwf;have HKp:=hide hF.keep;have HSv:=hide hsv;have HSl:=hide hsl;clear hF hnv hbx hres hTn htx hfl hst hwf hLf hRf HW hc0 hc1 hf hsv hsl
     go_wp2_with (first|(rw[←HWf.out])|fail)
     refine HTx.out.mono ?_;rintro e w5 ⟨rfl,hR5,hT5⟩;have EO:Tn p wr w5:=(Tn.of_below HLf.out.below).trans hT5;have hzf:=HLf.out.size;have VL:=hT5.size;have rJ:=(EO.block B He (by omega)).trans HBx.out;have RJ:=(hT5.block wr.heap.size TT (by omega)).trans HRf.out;have O3:y8 (B+1) wK.heap.size w5 (.slice ba bn bc) N:=HNv.out.stay (by omega) EO.size fun k hk hkb=>EO.block k hk (by omega);have O4:∀k,k<wK.heap.size→B+1≤k→w5.heap[k]?=wK.heap[k]?:=fun k hk hkb=>(EO.block k (by omega) (by omega)).trans (HKp.out k hk hkb);have J2:=(EO.block _ (by omega) (by omega)).trans Jl.out;have Qq:=HTn.out.trans EO;dsimp only;clear d0 d1 b0 b1 b2 b3 b4 f0 f1 f2 f3 f4 EO hT5 HTx;cases fl with
     |false=>
      have HFin:Hid (Qp w wK p q B n1 ro dn (.slice (some ⟨g0,0,none⟩) ks.length ac) st3 N w5):=⟨hR5,Qq,J2,by omega,O4,_,rJ,O3⟩;have HE2:Hid (iR ks st=(N++(iR (ks.drop (j+1)) st3).1,(iR (ks.drop (j+1)) st3).2)):=by
       show _=_;rw[HEq.out,HSt.out];rfl
      clear hR5 Qq J2 O4 rJ O3 RJ HEq HSt;go_wp2
      go_roundg (ks.length- (j+1))
      case measure=>omega
      case rel=>exact⟨j+1,by omega,by go_num,st3,N,(by have:=HNl.out;show _≤_;omega),HE2,HFin⟩
     |true=>
      have O1:Strs w5 (.slice sa f.2.length sc) f.2:=HSv.out.kept' (by omega) fun k hk e=>O4 k hk (HSl.out k e).1;obtain⟨v6,w6,hrun,hO6,hg6⟩:=y8.append O3 f (.slice sa f.2.length sc) O1 (HSl.out) (by have:=HNl.out;omega) (by omega) rfl;obtain⟨a6,n6,c6,rfl⟩:∃a n c,v6=.slice a n c:=by obtain⟨a,c,e⟩:=hO6.slice;exact⟨a,_,c,e⟩
      have hown:∀k,(Value.slice ba bn bc).ownBlock=some k→wK.heap.size≤k:=fun k e=>(O3.lt e).1;have hblk:∀k,k<wK.heap.size→w6.heap[k]?=w5.heap[k]?:=fun k hkb=>
       (hg6.block k (by simp;omega) (fun e=>by have:=hown k e.symm;omega)).trans (Below.heap_alloc w5 _ k (by omega))
      have RI:w5.heap.size≤w6.heap.size:=Nat.le_trans (by simp) hg6.size;have hzB:B<wK.heap.size:=by omega
      have Dx:=(hblk B hzB).trans rJ;have AA:=(hblk w.heap.size (by omega)).trans J2;have hR6:RdB w6 p q st3:=RdB.stay hR5 RI hp fun k hk hkq=>hblk k (by omega);have hT6:Tn p w w6:=Qq.grew hg6 fun k e=>by have:=hown k e;omega
      obtain⟨m0,m1,m2,m3,m4,⟨g0',g1,g2,g3,g4⟩,TQ⟩:=dR Dx;obtain⟨c0,c1,c2,c3,c4,_,_⟩:=dR rJ;obtain⟨e0,e1,_,_,_⟩:=FR RJ;have e1':w5.cell? ⟨wr.heap.size,0+1,none⟩=some (.slice sa f.2.length sc):=e1;have HFin:Hid (Qp w wK p q B n1 ro dn (.slice (some ⟨g0,0,none⟩) ks.length ac) st3 (N++[f]) (w6.setCell ⟨B,1,none⟩ (.slice a6 n6 c6))):=by
       have hT:=(Tn.refl B w6).setCell (x:=⟨B,1,none⟩) (Or.inl rfl) (.slice a6 n6 c6);have hzT:=hT.size;refine⟨hR6.stay hT.size hp fun k hk hkq=>hT.block k hk (by omega),RH.out _ _ hT6 hT (by omega),?_,by omega,fun k hk hkb=> ?_,_,bH (j:=1) Dx _,hO6.stay (by omega) hT.size fun k hk hkb=>hT.block k hk (by omega)⟩
       ·rw[hT.block _ (by omega) (by omega)];exact AA
       ·rw[hT.block k (by omega) (by omega),hblk k hk];exact O4 k hk hkb
      have HE2:Hid (iR ks st=((N++[f])++(iR (ks.drop (j+1)) st3).1,(iR (ks.drop (j+1)) st3).2)):=by
       show _=_;rw[HEq.out,HSt.out,List.append_assoc];rfl
      have HRn:=hide hrun;have Xe:w.heap.size<w6.heap.size:=by omega
      clear hR5 Qq J2 O4 rJ O3 RJ HEq HSt hrun hO6 hg6 hown hblk Dx AA hR6 hT6 O1
      go_wp2_with (at_builtin;refine wpList_append_run rfl (.tmp 43) (.tmp 45) 24 rfl _ _ _ _ rfl rfl HRn.out ?_)
      go_roundg (ks.length- (j+1))
      case measure=>omega
      case rel=>exact⟨j+1,by omega,by go_num,st3,N++[f],(by have:=HNl.out;show _≤_;simp;omega),HE2,HFin⟩
    ·have hE:iR ks st=(N,st2):=by
      have:=HEq.out;rw[this,List.drop_eq_nil_of_le (by omega)];simp[iR]
     have HX3:Hid (BD s=(⟨ks,N,n1,ro,dn⟩,st2)):=by show _=_;rw[HX2.out,hE]
     have hnl:=HNl.out;have HOw:=hide (ND (.slice ba bn bc) N wr (hnv.facts (by omega)));have HK2:Hid (bY wr (B+1) (.slice aa ks.length ac) ks):=HK.out.stay hzk fun k hk hkb=>hF.keep k hk hkb;have HBx:=hide hbx;have Jl:=hide hres;have HTn:=hide hTn;have HRd:=hide hF.rd;clear hE hF hnv hbx hres hTn HEq HW HK HX2
     go_wp2_with fail
     refine HOw.out.mono ?_;rintro e w7 ⟨v7,rfl,hO7,hL7⟩;have Xf:=hL7.size;have Lc:=(hL7.block He).trans HBx.out;have O5:=(hL7.block (by omega)).trans Jl.out;obtain⟨a7,c7,rfl⟩:=hO7.slice;have hT8:Tn B w7 (w7.setCell ⟨B,1,none⟩ (.slice a7 N.length c7)):=(Tn.refl B w7).setCell (Or.inl rfl) _;have O0:(w7.setCell ⟨B,1,none⟩ (.slice a7 N.length c7)).heap[B]?=some (.cells #[.slice aa ks.length ac,.slice a7 N.length c7,.int .i64 n1,.int .i64 ro,.bool dn] 47 (0,0)):=bH (j:=1) Lc _;have ML:(w7.setCell ⟨B,1,none⟩ (.slice a7 N.length c7)).heap[w.heap.size]?=some (.cells #[.slice none 0 0,.slice none 0 0,.int .i64 0,.int .i64 0,.bool false] 47 (0,0)):=(hT8.block _ (by omega) (by omega)).trans O5;clear b0 b1 b2 b3 b4 f0 f1 f2 f3 f4;obtain⟨b0,b1,b2,b3,b4,⟨f0,f1,f2,f3,f4⟩,_⟩:=dR Lc;obtain⟨d0,d1,d2,d3,d4,⟨g0,g1,g2,g3,g4⟩,Xg⟩:=dR O0;obtain⟨e0,e1,e2,e3,e4,⟨h0,h1,h2,h3,h4⟩,_⟩:=dR ML;have HR8:=hide ML;have HO7:Hid (bY (w7.setCell ⟨B,1,none⟩ (.slice a7 N.length c7)) (B+1) (.slice a7 N.length c7) N):=(hO7.base (by omega)).stay hT8.size fun k hk hkb=>hT8.block k hk (by omega);have HK7:Hid (bY (w7.setCell ⟨B,1,none⟩ (.slice a7 N.length c7)) (B+1) (.slice aa ks.length ac) ks):=(HK2.out.later hL7).stay hT8.size fun k hk hkb=>hT8.block k hk (by omega);have HR7:Hid (RdB (w7.setCell ⟨B,1,none⟩ (.slice a7 N.length c7)) p q st2):=(HRd.out.below hL7.below).stay hT8.size hp fun k hk hkb=>hT8.block k hk (by omega)
     have HT7:Hid (Tn p w (w7.setCell ⟨B,1,none⟩ (.slice a7 N.length c7))):=RH.out _ _ (HTn.out.trans (Tn.of_below hL7.below)) hT8 (by omega);have Xh:=hT8.size;clear hO7 hL7 Lc O5 hT8 O0 ML HOw HK2 HBx Jl HTn HRd;generalize hw8:w7.setCell ⟨B,1,none⟩ (.slice a7 N.length c7)=w8 at*;have HW8:=hide hw8.symm;clear hw8
     go_wp2_with (rw[←HW8.out])
     obtain⟨r0,r1,r2,r3,r4⟩:=yR HR8.out (.slice aa ks.length ac) (.slice a7 N.length c7) (.int .i64 n1) (.int .i64 ro) (.bool dn);have hT:=lG w8 w.heap.size (.slice aa ks.length ac) (.slice a7 N.length c7) (.int .i64 n1) (.int .i64 ro) (.bool dn);exact bodyPost_ret (v:=.agg #[.slice aa ks.length ac,.slice a7 N.length c7,.int .i64 n1,.int .i64 ro,.bool dn]) (by simp[results,Tryz.results132,go_sem,r0,r1,r2,r3,r4]) rfl
      ⟨_,rfl,by rw[HX3.out];exact⟨_,_,rfl,(HK7.out.gD (R:=w.heap.size) (by omega)).base (by omega),(HO7.out.gD (R:=w.heap.size) (by omega)).base (by omega)⟩,
       by rw[HX3.out];exact HR7.out.stay hT.size hp fun k hk hkb=>hT.block k hk (by omega),
       ⟨hT.os.trans HT7.out.os,hT.tape.trans HT7.out.tape,hT.output.trans HT7.out.output,Nat.le_trans HT7.out.size hT.size,fun k hk hkp=>(hT.block k (by omega) (by omega)).trans (HT7.out.block k hk hkp)⟩⟩
end Go.Proofs.YtafmbokfkbccaaaGreatDoor
