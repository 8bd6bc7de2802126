import Derived.Test.YtafmbokfkbccaaaGreatDoorJN5
import Derived.Test.YtafmbokfkbccaaaGreatDoorJN20
import Derived.Test.YtafmbokfkbccaaaGreatDoorJN21
namespace Go.Proofs.YtafmbokfkbccaaaGreatDoor
def VO (p:List aA) (ss:List Nat) (c k n:Nat) (K:List au):Int×List au:=if(jl p ss n k K).1≠0 then((jl p ss n k K).1,[]) else oV p ss c (n+1) (jl p ss n k K).2
theorem xg {c:Nat}:∀{ss:List Nat},(∀s∈ss,s<c)→countP ss≤c
 |[],_=>Nat.zero_le _
 |s::ss,h=>by
  have h1:=h s (by simp);have h2:=xg (ss:=ss) fun t ht=>h t (by simp[ht]);simp only[countP];omega
end Go.Proofs.YtafmbokfkbccaaaGreatDoor
namespace Go.Proofs.YtafmbokfkbccaaaGreatDoor
open Go.RowKit Go.Sort
theorem uF {s:ByteArray} (h:isNamed (raw s)=true):s.size<256:=by
 unfold isNamed at h;simp only[Bool.and_eq_true,decide_eq_true_eq] at h;have:=h.1.1;rw[aP] at this;omega
theorem J3 {f:au} (h:kJ f):zO f:=⟨uF h.1,by have:=h.2.1;omega,fun t ht=>uF (h.2.2 t ht)⟩
theorem J4 {K N:List au} (hK:Up K) (hN:Up N) (hs:∀f∈N,f∈K):N=K.filter (inB N):=
 vR hN (List.Pairwise.filter _ hK) fun f=>by
  rw[List.mem_filter,aZ];exact⟨fun h=>⟨hs f h,h⟩,fun h=>h.2⟩
theorem EP {p:List aA} {l:List au} (h:oH p l=0):countP (aG p).1≤16:=by
 obtain⟨_,_,τ,_,hs,ht⟩:=gZ h;have e:(aG p).1=p.map fun r=>τ r.head.name:=by rw[hs]
 rw[e];refine xg fun s hs'=> ?_;obtain⟨r,hr,rfl⟩:=List.mem_map.1 hs';exact ht r hr
theorem r9 {p:List aA} {r:fG} (h:aX p r=0):Cc r∧Up r.fresh:=by
 obtain⟨h1,hR⟩:=iM h;have hc:=EP h1;have:=hR.lev;have:=hR.rnd;have:=hR.good.few;exact⟨⟨hR.lev.1,by omega,hR.rnd.1,by omega,by omega,fun f hf=>J3 (hR.good.right f hf),J4 hR.good.up hR.up hR.sub⟩,hR.up⟩
def jF (p:List aA) (r:fG):Int×Bs:=if aX p r≠0 then(aX p r,[]) else(0,vk r)
def lI (p:List aA) (b:Bs):Int×fG:=if(lN b).2=false then(2,dZ) else if aX p (lN b).1≠0 then(aX p (lN b).1,dZ) else(0,(lN b).1)
theorem jA.nil (lo:Nat) (w:World):jA lo w (.slice none 0 0) []:=World.ownsRow_nil w lo _ 1
theorem jA.sl {lo:Nat} {w:World} {v:Value} {l:Bs} (h:jA lo w v l) (hl:l.length≤8796093022208):kN.sl (From lo) w v l:=by
 rcases h.2 with⟨rfl,e⟩|⟨g,cap,cur,rfl,hbg,hg,hnc,_⟩
 ·have:l=[]:=List.eq_nil_of_length_eq_zero e;subst this;exact kN.dw _ _ _ _
 ·refine⟨⟨hl,hnc⟩,_,cap,rfl,fun _=>⟨g,0,rfl,hbg,(Array.getElem?_eq_some_iff.1 hg).1,fun i x hi=>⟨_,rfl,fun j u hu=> ?_⟩⟩⟩;have hj:j=0:=by have:=(List.getElem?_eq_some_iff.1 hu).1;simp at this;exact this
  subst hj;simp at hu;subst hu;have:=World.ownsRow.cells h (g:=g) rfl i (.int .u8 (x.toNat:Int)) (by simp[kK,hi]);rw[Addr.add_lit] at this;simpa[kN] using this
set_option maxRecDepth 100000 in
set_option maxHeartbeats 2000000 in
theorem RL (p:List aA) (r:fG) (pv kv nv:Value) (w:World) (hv:dU.sl bZ w pv p) (hk:Facts w kv r.known) (hn:Facts w nv r.fresh):
  Calls Tryz.prog 25 #[pv,.agg #[kv,nv,.int .i64 r.level,.int .i64 r.rounds,.bool r.done]] w fun e w'=>∃v,e=.returned (.tuple #[v,.int .i64 (jF p r).1])∧jA w.heap.size w' v (jF p r).2∧Below w.heap.size w w':=by
 obtain⟨pa,pc,rfl⟩:=Kind.slice hv;obtain⟨ka,kc,rfl⟩:=aB hk;obtain⟨na,nc,rfl⟩:=aB hn;obtain⟨w1,hw1⟩:∃w1,w1=w.alloc (.cells #[.slice ka r.known.length kc,.slice na r.fresh.length nc,.int .i64 r.level,.int .i64 r.rounds,.bool r.done] 47):=⟨_,rfl⟩;have hL1:Later w w1:=by rw[hw1];exact(Later.refl w).alloc _
 have hr1:w1.heap[w.heap.size]?=some (.cells #[.slice ka r.known.length kc,.slice na r.fresh.length nc,.int .i64 r.level,.int .i64 r.rounds,.bool r.done] 47 (0,0)):=by rw[hw1];exact heap_alloc_new w _
 have hlt1:=(Array.getElem?_eq_some_iff.1 hr1).1;have HWr:=hide (AL p r (.slice pa p.length pc) _ _ w1 (Kind.aQ hv hL1) (hk.later hL1) (hn.later hL1));have HX:Hid (jF p r=if aX p r≠0 then(aX p r,[]) else(0,vk r)):=(rfl:_=_);have HBy:Hid (aX p r=0→Cc r∧Up r.fresh):=r9;have HK:=hide (hk.later hL1);have HN:=hide (hn.later hL1);have HW1:=hide hw1;have HR1:=hide hr1;have HL1:=hide hL1;obtain⟨q0,q1,q2,q3,q4,_,_⟩:=dR hr1;clear hv hk hn hL1 hw1 hr1;generalize aX p r=we at*
 go_enter Tryz.func25,Tryz.ntmps25
 go_wp2_with (first|(rw[←HW1.out])|fail)
 refine HWr.out.mono ?_;rintro e w2 ⟨rfl,hB2⟩;have hr2:=(hB2.block _ hlt1).trans HR1.out;have HB2:=hide (aj HL1.out.below hB2 HL1.out.size);have hsz:=HL1.out.size
 by_cases h0:we=0
 ·subst h0;obtain⟨hby,hup⟩:=HBy.out rfl;have HX1:Hid (jF p r=(0,vk r)):=by show _=_;rw[HX.out];simp
  obtain⟨K,N,lv,ro,dn⟩:=r;dsimp only at*;obtain⟨lv,rfl⟩:∃n:Nat,lv=(n:Int):=⟨lv.toNat,by have:=hby.Vj;simp only at this;omega⟩;obtain⟨ro,rfl⟩:∃n:Nat,ro=(n:Int):=⟨ro.toNat,by have:=hby.Vk;simp only at this;omega⟩;have HC:=hide (JZ K N lv ro dn (.slice ka K.length kc) (.slice na N.length nc) w2 (HK.out.below hB2) (HN.out.below hB2) hby hup);obtain⟨q0,q1,q2,q3,q4,_,_⟩:=dR hr2;clear HX HBy hby hup hr2 hB2 HK HN HWr HW1 HR1
  go_wp2_with fail
  refine HC.out.mono ?_;rintro e w3 ⟨v3,rfl,hO3,hB3⟩;obtain⟨a3,n3,c3,rfl⟩:=hO3.slice3;have HO3:=hide hO3;have HB3:=hide (aj HB2.out hB3 HB2.out.size);have hz2:=HB2.out.size;clear hO3 hB3 HC;go_wp2
  go_ret2
  exact⟨.slice a3 n3 c3,by rw[HX1.out];rfl,by rw[HX1.out];exact HO3.out.low hz2,HB3.out⟩
 ·have HX1:Hid (jF p r=(we,[])):=by show _=_;rw[HX.out,if_pos h0]
  have hne:(we != 0)=true:=by simpa using h0
  clear HX HBy hr2 hB2 HK HN HWr HW1 HR1 h0;go_wp2
  go_ret2
  exact⟨.slice none 0 0,by rw[HX1.out];rfl,by rw[HX1.out];exact jA.nil _ _,HB2.out⟩
set_option maxRecDepth 100000 in
set_option maxHeartbeats 2000000 in
theorem RN (b:Bs) (bv:Value) (w:World) (hb:dQ bZ w bv b):
  Calls Tryz.prog 74 #[bv] w fun e w'=>∃v,e=.returned (.tuple #[v,.bool (lN b).2])∧oh w.heap.size w' v (lN b).1∧Below w.heap.size w w':=by
 obtain⟨ba,bn,bc,rfl⟩:∃a n c,bv=.slice a n c:=by obtain⟨a,c,e⟩:=dQ.slice hb;exact⟨a,_,c,e⟩
 obtain⟨w1,hw1⟩:∃w1,w1=w.alloc (.cells #[.slice none 0 0,.slice none 0 0,.int .i64 0,.int .i64 0,.bool false] 47):=⟨_,rfl⟩;obtain⟨w2,hw2⟩:∃w2,w2=w1.alloc (.cells #[.slice ba bn bc,.bool false] 206):=⟨_,rfl⟩;have hz1:w1.heap.size=w.heap.size+1:=by rw[hw1];simp
 have hz2:w2.heap.size=w.heap.size+2:=by rw[hw2];simp;omega
 have hL2:Later w w2:=by rw[hw2,hw1];exact((Later.refl w).alloc _).alloc _
 have Dy:Later w1 w2:=by rw[hw2];exact(Later.refl w1).alloc _
 have hr1:w1.heap[w.heap.size]?=some (.cells #[.slice none 0 0,.slice none 0 0,.int .i64 0,.int .i64 0,.bool false] 47 (0,0)):=by rw[hw1];exact heap_alloc_new w _
 have hr2:w2.heap[w.heap.size]?=some (.cells #[.slice none 0 0,.slice none 0 0,.int .i64 0,.int .i64 0,.bool false] 47 (0,0)):=(Dy.block (by omega)).trans hr1;have hp2:w2.heap[w.heap.size+1]?=some (.cells #[.slice ba bn bc,.bool false] 206 (0,0)):=by
  have:=heap_alloc_new w1 (.cells #[.slice ba bn bc,.bool false] 206);rw[hw2,←hz1];exact this
 have hR2:RdB w2 (w.heap.size+1) (w.heap.size+2) (b,false):=⟨_,hp2,dQ.kept (dQ.mono hb fun k hk _=>⟨by omega,by omega⟩) hL2.size fun k hk _=>hL2.block hk⟩;have LM:=hide (RG (w.heap.size+1) (w.heap.size+2) (b,false) w2 hR2 (by omega) (by omega));have HX:Hid (lN b=((BD (b,false)).1,!(BD (b,false)).2.2&&decide ((BD (b,false)).2.1=[]))):=(rfl:_=_);have HW1:=hide hw1;have HW2:=hide hw2;have HR2:=hide hr2;have HL2:=hide hL2;clear hb hw1 hw2 hL2 Dy hr1 hr2 hp2 hR2
 go_enter Tryz.func74,Tryz.ntmps74
 go_wp2_with (first|(rw[←HW1.out])|(rw[←HW2.out])|fail)
 refine LM.out.mono ?_;rintro e w3 ⟨v3,rfl,hO3,hR3,hT3⟩;obtain⟨⟨K,N,lv,ro,dn⟩,l3,am,hrr⟩:∃r l a,BD (b,false)=(r,(l,a)):=⟨_,_,_,rfl⟩;rw[hrr] at hO3 hR3;obtain⟨kv,nv,rfl,hk3,hn3⟩:=hO3;obtain⟨ka,kc,rfl⟩:=hk3.slice;obtain⟨na,nc,rfl⟩:=hn3.slice;dsimp only at*;obtain⟨w4,hw4⟩:∃w4,w4=w3.alloc (.cells #[.slice ka K.length kc,.slice na N.length nc,.int .i64 lv,.int .i64 ro,.bool dn] 47):=⟨_,rfl⟩;have hL4:Later w3 w4:=by rw[hw4];exact(Later.refl w3).alloc _
 have hr4:w4.heap[w3.heap.size]?=some (.cells #[.slice ka K.length kc,.slice na N.length nc,.int .i64 lv,.int .i64 ro,.bool dn] 47 (0,0)):=by rw[hw4];exact heap_alloc_new w3 _
 have Xi:=(Array.getElem?_eq_some_iff.1 hr4).1;have hz3:=hT3.size;have hz4:=hL4.size;obtain⟨xv,hx3,hxs⟩:=hR3;obtain⟨xa,xc,rfl⟩:=dQ.slice hxs;have hxl:=hxs.1.1;have hx4:=(hL4.block (Array.getElem?_eq_some_iff.1 hx3).1).trans hx3;have ER:=(hL4.block (by omega)).trans ((hT3.block w.heap.size (by omega) (by omega)).trans HR2.out);have HX1:Hid (lN b=(⟨K,N,lv,ro,dn⟩,!am&&decide (l3=[]))):=by show _=_;rw[HX.out,hrr]
 have HK4:Hid (bY w4 (w.heap.size+2) (.slice ka K.length kc) K):=(hk3.base (by omega)).later hL4;have HN4:Hid (bY w4 (w.heap.size+2) (.slice na N.length nc) N):=(hn3.base (by omega)).later hL4;have HB4:Hid (Below w.heap.size w w4):=(HL2.out.below.trans ⟨hT3.os,hT3.tape,hT3.output,hT3.size,fun k hk=>hT3.block k (by omega) (by omega)⟩).trans (hL4.below.mono (by omega));have HS:Hid (∀w':World,w'.heap[w.heap.size+1]?=w4.heap[w.heap.size+1]?∧w'.heap[w3.heap.size]?=w4.heap[w3.heap.size]?→w'.cell? ⟨w.heap.size+1,0,none⟩=some (.slice xa l3.length xc)∧w'.cell? ⟨w.heap.size+1,1,none⟩=some (.bool am)∧w'.heap[w3.heap.size]?=some (.cells #[.slice ka K.length kc,.slice na N.length nc,.int .i64 lv,.int .i64 ro,.bool dn] 47 (0,0))):=fun w' h=>by
  have h1:=FR (h.1.trans hx4);exact⟨h1.1,h1.2.1,h.2.trans hr4⟩
 have HRs:=hide ER;have HW4:=hide hw4;have TV:w.heap.size<w4.heap.size:=by omega
 clear hrr hk3 hn3 hw4 hL4 hr4 hx3 hxs hx4 ER HX HR2 HL2 LM HW1 HW2 hT3;have hd:(((l3.length:Nat):Int)==0)=decide (l3=[]):=by
  cases l3 with
  |nil=>rfl
  |cons c l=>simp;omega
 have HD:=hide hd;clear hd;generalize l3.length=ln at*
 go_wp2_with (first|(rw[←HW4.out])|fail)
 refine wp_region_held_drew (S:=fun w'=>w'.heap[w.heap.size+1]?=w4.heap[w.heap.size+1]?∧w'.heap[w3.heap.size]?=w4.heap[w3.heap.size]?) (by kernel_rfl) ⟨rfl,rfl⟩ (fun hHeld=> ?_);cases am with
 |true=>
  refine ak (i:=0) (d:=some 9) (v:= ?_) rfl rfl hHeld ?_ ?_;rotate_left;focus intro w hSw;(try dsimp only at hSw);obtain⟨s0,s1,s2⟩:=HS.out _ hSw;obtain⟨p0,p1,p2,p3,p4,_,_⟩:=dR s2;go_simp;try with_reducible rfl
  simp only[aK,aL,aze,asu];refine ak (i:=1) (d:=some 10) (v:= ?_) rfl rfl hHeld ?_ ?_;rotate_left;focus intro w hSw;(try dsimp only at hSw);obtain⟨s0,s1,s2⟩:=HS.out _ hSw;obtain⟨p0,p1,p2,p3,p4,_,_⟩:=dR s2;go_simp;try with_reducible rfl
  simp only[aK,aL,aze,asu];refine ak (i:=2) (d:=some 11) (v:= ?_) rfl rfl hHeld ?_ ?_;rotate_left;focus intro w hSw;(try dsimp only at hSw);obtain⟨s0,s1,s2⟩:=HS.out _ hSw;obtain⟨p0,p1,p2,p3,p4,_,_⟩:=dR s2;go_simp;try with_reducible rfl
  simp only[aK,aL,aze,asu];refine ak (i:=3) (d:=some 12) (v:= ?_) rfl rfl hHeld ?_ ?_;rotate_left;focus intro w hSw;(try dsimp only at hSw);obtain⟨s0,s1,s2⟩:=HS.out _ hSw;obtain⟨p0,p1,p2,p3,p4,_,_⟩:=dR s2;go_simp;try with_reducible rfl
  simp only[aK,aL,aze,asu];refine ak (i:=4) (d:=some 13) (v:= ?_) rfl rfl hHeld ?_ ?_;rotate_left;focus intro w hSw;(try dsimp only at hSw);obtain⟨s0,s1,s2⟩:=HS.out _ hSw;obtain⟨p0,p1,p2,p3,p4,_,_⟩:=dR s2;go_simp;try with_reducible rfl
  simp only[aK,aL,aze,asu];refine lC (i:=5) (d:=some 14) rfl rfl hHeld ?_;simp only[aK,aL,aze,asu];refine lC (i:=6) (d:=some 15) rfl rfl hHeld ?_;simp only[aK,aL,aze,asu];refine lC (i:=7) (d:=some 16) rfl rfl hHeld ?_;simp only[aK,aL,aze,asu];refine lC (i:=8) (d:=some 17) rfl rfl hHeld ?_;simp only[aK,aL,aze,asu];refine ak (i:=9) (d:=some 18) (v:= ?_) rfl rfl hHeld ?_ ?_;rotate_left;focus intro w hSw;(try dsimp only at hSw);go_simp;try with_reducible rfl
  simp only[aK,aL,aze,asu];refine wpAnyH_ready (rs:=[10]) (by kernel_rfl) (by simp) ?_;refine AllReadyH.cons rfl (fun K' hK=> ?_) AllReadyH.nil;obtain⟨g0,g1,g2,g3,g4,⟨f0,f1,f2,f3,f4⟩,_⟩:=dR HRs.out;go_simp;have hTp:=lG w4 w.heap.size (.slice ka K.length kc) (.slice na N.length nc) (.int .i64 lv) (.int .i64 ro) (.bool dn);obtain⟨w6,hw6⟩:∃w6,w6=gD w4 w.heap.size (.slice ka K.length kc) (.slice na N.length nc) (.int .i64 lv) (.int .i64 ro) (.bool dn):=⟨_,rfl⟩;have MN:=hw6;unfold gD at MN;rw[←MN];rw[←hw6] at hTp;have qE:w6.heap[w.heap.size]?=some (.cells #[.slice ka K.length kc,.slice na N.length nc,.int .i64 lv,.int .i64 ro,.bool dn] 47 (0,0)):=by rw[hw6];exact pK HRs.out _ _ _ _ _
  have HK6:Hid (bY w6 (w.heap.size+2) (.slice ka K.length kc) K):=by show bY _ _ _ _;rw[hw6];exact HK4.out.gD (by omega)
  have HN6:Hid (bY w6 (w.heap.size+2) (.slice na N.length nc) N):=by show bY _ _ _ _;rw[hw6];exact HN4.out.gD (by omega)
  have HB6:Hid (Below w.heap.size w w6):=by show Below _ _ _;rw[hw6];exact Below.gD HB4.out (Nat.le_refl _)
  obtain⟨r0,r1,r2,r3,r4,_,_⟩:=dR qE;clear hw6 MN qE;refine hK.out _ _ ⟨hTp.block _ (by omega) (by omega),hTp.block _ (by omega) (by omega)⟩ (fun hHeld=> ?_);clear hTp;clear hK K';refine wpAnyH_ready (rs:=[11]) (by kernel_rfl) (by simp) ?_;refine AllReadyH.cons rfl (fun K' hK=> ?_) AllReadyH.nil;go_simp;refine hK.out _ _ hHeld (fun hHeld=> ?_);clear hK K' hHeld;refine wpAnyH_done (by kernel_rfl) ?_ _;clear g0 g1 g2 g3 g4 f0 f1 f2 f3 f4;go_wp2;exact bodyPost_ret (v:=.tuple #[.agg #[.slice ka K.length kc,.slice na N.length nc,.int .i64 lv,.int .i64 ro,.bool dn],.bool false]) (by simp[results,Tryz.results74,go_sem,r0,r1,r2,r3,r4]) rfl
   ⟨_,by rw[HX1.out];rfl,by rw[HX1.out];exact⟨_,_,rfl,(HK6.out.later (Later.refl _).drew).base (by omega),(HN6.out.later (Later.refl _).drew).base (by omega)⟩,HB6.out.trans (Below.refl _ _).drew⟩
 |false=>
  refine ak (i:=0) (d:=some 9) (v:= ?_) rfl rfl hHeld ?_ ?_;rotate_left;focus intro w hSw;(try dsimp only at hSw);obtain⟨s0,s1,s2⟩:=HS.out _ hSw;obtain⟨p0,p1,p2,p3,p4,_,_⟩:=dR s2;go_simp;try with_reducible rfl
  simp only[aK,aL,aze,asu];refine ak (i:=1) (d:=some 10) (v:= ?_) rfl rfl hHeld ?_ ?_;rotate_left;focus intro w hSw;(try dsimp only at hSw);obtain⟨s0,s1,s2⟩:=HS.out _ hSw;obtain⟨p0,p1,p2,p3,p4,_,_⟩:=dR s2;go_simp;try with_reducible rfl
  simp only[aK,aL,aze,asu];refine ak (i:=2) (d:=some 11) (v:= ?_) rfl rfl hHeld ?_ ?_;rotate_left;focus intro w hSw;(try dsimp only at hSw);obtain⟨s0,s1,s2⟩:=HS.out _ hSw;obtain⟨p0,p1,p2,p3,p4,_,_⟩:=dR s2;go_simp;try with_reducible rfl
  simp only[aK,aL,aze,asu];refine ak (i:=3) (d:=some 12) (v:= ?_) rfl rfl hHeld ?_ ?_;rotate_left;focus intro w hSw;(try dsimp only at hSw);obtain⟨s0,s1,s2⟩:=HS.out _ hSw;obtain⟨p0,p1,p2,p3,p4,_,_⟩:=dR s2;go_simp;try with_reducible rfl
  simp only[aK,aL,aze,asu];refine ak (i:=4) (d:=some 13) (v:= ?_) rfl rfl hHeld ?_ ?_;rotate_left;focus intro w hSw;(try dsimp only at hSw);obtain⟨s0,s1,s2⟩:=HS.out _ hSw;obtain⟨p0,p1,p2,p3,p4,_,_⟩:=dR s2;go_simp;try with_reducible rfl
  simp only[aK,aL,aze,asu];refine ak (i:=5) (d:=some 14) (v:= ?_) rfl rfl hHeld ?_ ?_;rotate_left;focus intro w hSw;(try dsimp only at hSw);obtain⟨s0,s1,s2⟩:=HS.out _ hSw;obtain⟨p0,p1,p2,p3,p4,_,_⟩:=dR s2;go_simp;try with_reducible rfl
  simp only[aK,aL,aze,asu];refine ak (i:=6) (d:=some 15) (v:= ?_) rfl rfl hHeld ?_ ?_;rotate_left;focus intro w hSw;(try dsimp only at hSw);obtain⟨s0,s1,s2⟩:=HS.out _ hSw;obtain⟨p0,p1,p2,p3,p4,_,_⟩:=dR s2;go_simp;try with_reducible rfl
  simp only[aK,aL,aze,asu];refine ak (i:=7) (d:=some 16) (v:= ?_) rfl rfl hHeld ?_ ?_;rotate_left;focus intro w hSw;(try dsimp only at hSw);obtain⟨s0,s1,s2⟩:=HS.out _ hSw;obtain⟨p0,p1,p2,p3,p4,_,_⟩:=dR s2;go_simp;try with_reducible rfl
  simp only[aK,aL,aze,asu];refine ak (i:=8) (d:=some 17) (v:= ?_) rfl rfl hHeld ?_ ?_;rotate_left;focus intro w hSw;(try dsimp only at hSw);obtain⟨s0,s1,s2⟩:=HS.out _ hSw;obtain⟨p0,p1,p2,p3,p4,_,_⟩:=dR s2;go_simp;try with_reducible rfl
  simp only[aK,aL,aze,asu];refine ak (i:=9) (d:=some 18) (v:= ?_) rfl rfl hHeld ?_ ?_;rotate_left;focus intro w hSw;(try dsimp only at hSw);go_simp;try with_reducible rfl
  simp only[aK,aL,aze,asu];refine wpAnyH_ready (rs:=[10]) (by kernel_rfl) (by simp) ?_;refine AllReadyH.cons rfl (fun K' hK=> ?_) AllReadyH.nil;obtain⟨g0,g1,g2,g3,g4,⟨f0,f1,f2,f3,f4⟩,_⟩:=dR HRs.out;go_simp;have hTp:=lG w4 w.heap.size (.slice ka K.length kc) (.slice na N.length nc) (.int .i64 lv) (.int .i64 ro) (.bool dn);obtain⟨w6,hw6⟩:∃w6,w6=gD w4 w.heap.size (.slice ka K.length kc) (.slice na N.length nc) (.int .i64 lv) (.int .i64 ro) (.bool dn):=⟨_,rfl⟩;have MN:=hw6;unfold gD at MN;rw[←MN];rw[←hw6] at hTp;have qE:w6.heap[w.heap.size]?=some (.cells #[.slice ka K.length kc,.slice na N.length nc,.int .i64 lv,.int .i64 ro,.bool dn] 47 (0,0)):=by rw[hw6];exact pK HRs.out _ _ _ _ _
  have HK6:Hid (bY w6 (w.heap.size+2) (.slice ka K.length kc) K):=by show bY _ _ _ _;rw[hw6];exact HK4.out.gD (by omega)
  have HN6:Hid (bY w6 (w.heap.size+2) (.slice na N.length nc) N):=by show bY _ _ _ _;rw[hw6];exact HN4.out.gD (by omega)
  have HB6:Hid (Below w.heap.size w w6):=by show Below _ _ _;rw[hw6];exact Below.gD HB4.out (Nat.le_refl _)
  obtain⟨r0,r1,r2,r3,r4,_,_⟩:=dR qE;clear hw6 MN qE;refine hK.out _ _ ⟨hTp.block _ (by omega) (by omega),hTp.block _ (by omega) (by omega)⟩ (fun hHeld=> ?_);clear hTp;clear hK K';refine wpAnyH_ready (rs:=[11]) (by kernel_rfl) (by simp) ?_;refine AllReadyH.cons rfl (fun K' hK=> ?_) AllReadyH.nil;go_simp;refine hK.out _ _ hHeld (fun hHeld=> ?_);clear hK K' hHeld;refine wpAnyH_done (by kernel_rfl) ?_ _;clear g0 g1 g2 g3 g4 f0 f1 f2 f3 f4;go_wp2;exact bodyPost_ret (v:=.tuple #[.agg #[.slice ka K.length kc,.slice na N.length nc,.int .i64 lv,.int .i64 ro,.bool dn],.bool ((ln:Int)==0)]) (by simp[results,Tryz.results74,go_sem,r0,r1,r2,r3,r4]) rfl
   ⟨_,by rw[HX1.out,HD.out];rfl,by rw[HX1.out];exact⟨_,_,rfl,(HK6.out.later (Later.refl _).drew).base (by omega),(HN6.out.later (Later.refl _).drew).base (by omega)⟩,HB6.out.trans (Below.refl _ _).drew⟩
end Go.Proofs.YtafmbokfkbccaaaGreatDoor
namespace Go.Proofs.YtafmbokfkbccaaaGreatDoor
open Go.RowKit Go.Sort
theorem J5 (b:Bs):(lN b).1.known.length<256∧(lN b).1.fresh.length<256:=by
 unfold lN BD;dsimp only;have h1:(gV (Cb (b,false)).1.2.2.2.2 (Cb (b,false)).2).1.length<256:=by
  rw[wY];unfold Cb;dsimp only;exact lH _
 exact⟨h1,Nat.lt_of_le_of_lt (AB _ _) h1⟩
set_option maxRecDepth 100000 in
set_option maxHeartbeats 2000000 in
theorem O7 (p:List aA) (b:Bs) (pv bv:Value) (w:World) (hv:dU.sl bZ w pv p) (hb:dQ bZ w bv b):
  Calls Tryz.prog 27 #[pv,bv] w fun e w'=>∃v,e=.returned (.tuple #[v,.int .i64 (lI p b).1])∧oh (w.heap.size+1) w' v (lI p b).2∧Below w.heap.size w w':=by
 obtain⟨pa,pc,rfl⟩:=Kind.slice hv;obtain⟨ba,bc,rfl⟩:=dQ.slice hb;obtain⟨w1,hw1⟩:∃w1,w1=w.alloc (.cells #[.slice none 0 0,.slice none 0 0,.int .i64 0,.int .i64 0,.bool false] 47):=⟨_,rfl⟩;have hz1:w1.heap.size=w.heap.size+1:=by rw[hw1];simp
 have hL1:Later w w1:=by rw[hw1];exact(Later.refl w).alloc _
 have hr1:w1.heap[w.heap.size]?=some (.cells #[.slice none 0 0,.slice none 0 0,.int .i64 0,.int .i64 0,.bool false] 47 (0,0)):=by rw[hw1];exact heap_alloc_new w _
 have HRd:=hide (RN b (.slice ba b.length bc) w1 (dQ.later hb hL1));have HX:Hid (lI p b=if(lN b).2=false then(2,dZ) else if aX p (lN b).1≠0 then(aX p (lN b).1,dZ) else(0,(lN b).1)):=(rfl:_=_);obtain⟨r,ok,hrb⟩:∃r ok,lN b=(r,ok):=⟨_,_,rfl⟩;have HFw:Hid (r.known.length<256∧r.fresh.length<256):=by have:=J5 b;rw[hrb] at this;exact this
 rw[hrb] at HX HRd;have HW1:=hide hw1;have HR1:=hide hr1;have HL1:=hide hL1;have HV:=hide (Kind.aQ hv hL1);clear hv hb hw1 hL1 hr1 hrb;dsimp only at HX HRd;generalize b.length=bn at*
 go_enter Tryz.func27,Tryz.ntmps27
 go_wp2_with (first|(rw[←HW1.out])|fail)
 refine HRd.out.mono ?_;rintro e w2 ⟨v2,rfl,⟨kv,nv,rfl,hk2,hn2⟩,hB2⟩;obtain⟨ka,kc,rfl⟩:=hk2.slice;obtain⟨na,nc,rfl⟩:=hn2.slice;obtain⟨w3,hw3⟩:∃w3,w3=w2.alloc (.cells #[.slice ka r.known.length kc,.slice na r.fresh.length nc,.int .i64 r.level,.int .i64 r.rounds,.bool r.done] 47):=⟨_,rfl⟩;have hL3:Later w2 w3:=by rw[hw3];exact(Later.refl w2).alloc _
 have hr3:w3.heap[w2.heap.size]?=some (.cells #[.slice ka r.known.length kc,.slice na r.fresh.length nc,.int .i64 r.level,.int .i64 r.rounds,.bool r.done] 47 (0,0)):=by rw[hw3];exact heap_alloc_new w2 _
 have hlt3:=(Array.getElem?_eq_some_iff.1 hr3).1;have FT:Below w1.heap.size w1 w3:=aj hB2 hL3.below hB2.size;have EL:=(FT.block w.heap.size (by omega)).trans HR1.out;have hz2:=hB2.size;have hkl:r.known.length≤3518437208883:=by have:=HFw.out.1;omega
 have hnl:r.fresh.length≤3518437208883:=by have:=HFw.out.2;omega
 have HK3:Hid (bY w3 (w.heap.size+1) (.slice ka r.known.length kc) r.known):=(hk2.base (by omega)).later hL3;have HN3:Hid (bY w3 (w.heap.size+1) (.slice na r.fresh.length nc) r.fresh):=(hn2.base (by omega)).later hL3;have HB3:Hid (Below w.heap.size w w3):=aj HL1.out.below FT HL1.out.size;have HWr:=hide (AL p r (.slice pa p.length pc) _ _ w3 (Kind.aY HV.out FT) (HK3.out.facts hkl) (HN3.out.facts hnl));have HR3:=hide hr3;have HS3:=hide EL;have HW3:=hide hw3;obtain⟨q0,q1,q2,q3,q4,_,_⟩:=dR hr3;obtain⟨e0,e1,e2,e3,e4,⟨f0,f1,f2,f3,f4⟩,TV⟩:=dR EL;clear hk2 hn2 hw3 hL3 hr3 EL hB2 FT HRd HR1 HW1;cases ok with
 |false=>
  have HX1:Hid (lI p b=(2,dZ)):=by show _=_;rw[HX.out];rfl
  clear HX HWr
  go_wp2_with (first|(rw[←HW3.out])|fail)
  obtain⟨r0,r1,r2,r3,r4⟩:=yR HS3.out (.slice none 0 0) (.slice none 0 0) (.int .i64 0) (.int .i64 0) (.bool false);exact bodyPost_ret (v:=.tuple #[.agg #[.slice none 0 0,.slice none 0 0,.int .i64 0,.int .i64 0,.bool false],.int .i64 2]) (by simp[results,Tryz.results27,go_sem,r0,r1,r2,r3,r4]) rfl
   ⟨_,by rw[HX1.out],by rw[HX1.out];exact oh.none _ _,Below.gD HB3.out (Nat.le_refl _)⟩
 |true=>
  generalize aX p r=we at*
  go_wp2_with (first|(rw[←HW3.out])|fail)
  refine HWr.out.mono ?_;rintro e w4 ⟨rfl,hB4⟩;have hr4:=(hB4.block _ hlt3).trans HR3.out;have ER:=(hB4.block _ TV).trans HS3.out;have HB4:=hide (aj HB3.out hB4 HB3.out.size);clear q0 q1 q2 q3 q4 e0 e1 e2 e3 e4 f0 f1 f2 f3 f4;obtain⟨q0,q1,q2,q3,q4,_,_⟩:=dR hr4;obtain⟨e0,e1,e2,e3,e4,⟨f0,f1,f2,f3,f4⟩,_⟩:=dR ER;have HS4:=hide ER;have HK4:Hid (bY w4 (w.heap.size+1) (.slice ka r.known.length kc) r.known):=HK3.out.stay hB4.size fun k hk _=>hB4.block k hk;have HN4:Hid (bY w4 (w.heap.size+1) (.slice na r.fresh.length nc) r.fresh):=HN3.out.stay hB4.size fun k hk _=>hB4.block k hk;clear hr4 ER hB4 HWr HW3 HR3 HS3 HK3 HN3 HB3
  by_cases h0:we=0
  ·subst h0;have HX1:Hid (lI p b=(0,r)):=by show _=_;rw[HX.out];simp
   clear HX;go_wp2;obtain⟨r0,r1,r2,r3,r4⟩:=yR HS4.out (.slice ka r.known.length kc) (.slice na r.fresh.length nc) (.int .i64 r.level) (.int .i64 r.rounds) (.bool r.done);exact bodyPost_ret (v:=.tuple #[.agg #[.slice ka r.known.length kc,.slice na r.fresh.length nc,.int .i64 r.level,.int .i64 r.rounds,.bool r.done],.int .i64 0]) (by simp[results,Tryz.results27,go_sem,r0,r1,r2,r3,r4]) rfl
    ⟨_,by rw[HX1.out],by rw[HX1.out];exact⟨_,_,rfl,HK4.out.gD (by omega),HN4.out.gD (by omega)⟩,Below.gD HB4.out (Nat.le_refl _)⟩
  ·have HX1:Hid (lI p b=(we,dZ)):=by show _=_;rw[HX.out];simp[h0]
   have hne:(we != 0)=true:=by simpa using h0
   clear HX h0;go_wp2;obtain⟨r0,r1,r2,r3,r4⟩:=yR HS4.out (.slice none 0 0) (.slice none 0 0) (.int .i64 0) (.int .i64 0) (.bool false);exact bodyPost_ret (v:=.tuple #[.agg #[.slice none 0 0,.slice none 0 0,.int .i64 0,.int .i64 0,.bool false],.int .i64 we]) (by simp[results,Tryz.results27,go_sem,r0,r1,r2,r3,r4]) rfl
    ⟨_,by rw[HX1.out],by rw[HX1.out];exact oh.none _ _,Below.gD HB4.out (Nat.le_refl _)⟩
end Go.Proofs.YtafmbokfkbccaaaGreatDoor
namespace Go.Proofs.YtafmbokfkbccaaaGreatDoor
open Go.RowKit Go.Sort Go.Maps
def jw (p:List aA) (r:fG) (n:Int):Int×fG:=if aX p r≠0 then(aX p r,dZ) else if(decide (0≤n)&&decide (n≤1000))=false then(3,dZ) else eU p (aG p).1 n.toNat r
theorem oh.slices {b:Nat} {w:World} {v:Value} {r:fG} (h:oh b w v r):∃ka kc na nc,v=.agg #[.slice ka r.known.length kc,.slice na r.fresh.length nc,.int .i64 r.level,.int .i64 r.rounds,.bool r.done]∧bY w b (.slice ka r.known.length kc) r.known∧bY w b (.slice na r.fresh.length nc) r.fresh:=by
 obtain⟨kv,nv,h1,h2,h3⟩:=h;obtain⟨ka,kc,rfl⟩:=h2.slice;obtain⟨na,nc,rfl⟩:=h3.slice;exact⟨ka,kc,na,nc,h1,h2,h3⟩
set_option maxRecDepth 100000 in
set_option maxHeartbeats 4000000 in
theorem ES (p:List aA) (r:fG) (n:Int) (pv kv nv:Value) (w:World) (hv:dU.sl bZ w pv p) (hk:Facts w kv r.known) (hn:Facts w nv r.fresh):
  Calls Tryz.prog 36 #[pv,.agg #[kv,nv,.int .i64 r.level,.int .i64 r.rounds,.bool r.done],.int .i64 n] w fun e w'=>∃v' er,e=.returned (.tuple #[v',.int .i64 er])∧vE (w.heap.size+2) w' v' er (jw p r n)∧Below w.heap.size w w':=by
 obtain⟨K,N,lev,rn,dn⟩:=r;dsimp only at*;obtain⟨pa,pc,rfl⟩:=Kind.slice hv;obtain⟨ka,kc,rfl⟩:=aB hk;obtain⟨na,nc,rfl⟩:=aB hn;obtain⟨w2,hw2⟩:∃w2,w2=(w.alloc (.cells #[.slice ka K.length kc,.slice na N.length nc,.int .i64 lev,.int .i64 rn,.bool dn] 47)).alloc (.cells #[.slice none 0 0,.slice none 0 0,.int .i64 0,.int .i64 0,.bool false] 47):=⟨_,rfl⟩;have hL2:Later w w2:=by rw[hw2];exact((Later.refl w).alloc _).alloc _
 have hz2:w2.heap.size=w.heap.size+2:=by rw[hw2];simp
 have hrb:w2.heap[w.heap.size]?=some (.cells #[.slice ka K.length kc,.slice na N.length nc,.int .i64 lev,.int .i64 rn,.bool dn] 47 (0,0)):=by
  rw[hw2,Below.heap_alloc _ _ _ (by simp)];exact heap_alloc_new w _
 have hrs:w2.heap[w.heap.size+1]?=some (.cells #[.slice none 0 0,.slice none 0 0,.int .i64 0,.int .i64 0,.bool false] 47 (0,0)):=by
  have:=heap_alloc_new (w.alloc (.cells #[.slice ka K.length kc,.slice na N.length nc,.int .i64 lev,.int .i64 rn,.bool dn] 47)) (.cells #[.slice none 0 0,.slice none 0 0,.int .i64 0,.int .i64 0,.bool false] 47);rw[hw2];simpa using this
 have HOf:=hide (AJ p ⟨K,N,lev,rn,dn⟩ (.slice pa p.length pc) (.slice ka K.length kc) (.slice na N.length nc) w2 (Kind.aQ hv hL2) (hk.later hL2) (hn.later hL2));have HV:=hide hv;have HK:=hide hk;have HN:=hide hn;have HL2:=hide hL2;have HRb:=hide hrb;have HRs:=hide hrs;have HW2:=hide hw2;have HX:Hid (jw p ⟨K,N,lev,rn,dn⟩ n=if aX p ⟨K,N,lev,rn,dn⟩≠0 then(aX p ⟨K,N,lev,rn,dn⟩,dZ) else if(decide (0≤n)&&decide (n≤1000))=false then(3,dZ) else eU p (aG p).1 n.toNat ⟨K,N,lev,rn,dn⟩):=(rfl:_=_);have HGo:Hid (aX p ⟨K,N,lev,rn,dn⟩=0→cZ p∧∃σ:aA→Nat,(aG p).1=p.map σ∧jQ p (countP (p.map σ)) ⟨K,N,lev,rn,dn⟩∧∀s∈p.map σ,s<1000):=fun h=>by
  obtain⟨h1,h2⟩:=iM h;obtain⟨hp,_,τ,_,hs,ht⟩:=gZ h1;have e:(aG p).1=p.map fun r=>τ r.head.name:=by rw[hs]
  refine⟨hp,_,e,e▸h2,fun s hs'=> ?_⟩;obtain⟨q,hq,rfl⟩:=List.mem_map.1 hs';have:=ht q hq;omega
 unfold OfT at HOf;generalize jw p ⟨K,N,lev,rn,dn⟩ n=SF at*;generalize aX p ⟨K,N,lev,rn,dn⟩=R at*;generalize(aG p).1=ss at*;clear hv hk hn hL2 hrb hrs hw2
 go_enter Tryz.func36,Tryz.ntmps36
 go_wp2_with fail
 rw[←HW2.out];refine HOf.out.mono ?_;rintro e w3 ⟨v1,rfl,⟨⟨a1,n1,c1,rfl⟩,hs1⟩,hB3⟩;have HB3:Hid (Below w.heap.size w w3):=aj HL2.out.below hB3 HL2.out.size;have MI:Hid (w3.heap[w.heap.size]?=some (.cells #[.slice ka K.length kc,.slice na N.length nc,.int .i64 lev,.int .i64 rn,.bool dn] 47 (0,0))):=by show _=_;rw[hB3.block _ (by omega)];exact HRb.out
 have Jk:Hid (w3.heap[w.heap.size+1]?=some (.cells #[.slice none 0 0,.slice none 0 0,.int .i64 0,.int .i64 0,.bool false] 47 (0,0))):=by show _=_;rw[hB3.block _ (by omega)];exact HRs.out
 have HS1:Hid (R=0→oG.sl (From (w.heap.size+2)) w3 (.slice a1 n1 c1) ss):=fun h=>Kind.aH (hs1 h) fun k _ h=>Nat.le_trans (by omega) h;have hz3:w.heap.size+2≤w3.heap.size:=by have:=hB3.size;omega
 clear hB3 hs1 HOf HW2 HRb HRs HL2 hz2 w2;obtain⟨b0,b1,b2,b3,b4,_,_⟩:=dR MI.out;obtain⟨q0,q1,q2,q3,q4,⟨f0,f1,f2,f3,f4⟩,_⟩:=dR Jk.out
 by_cases h0:R=0
 ·subst h0;obtain⟨hp,σ,hss,hRN,hsm⟩:=HGo.out rfl;have HV1:=hide (HS1.out rfl);have hn1:n1=ss.length:=by obtain⟨_,_,e⟩:=Kind.slice HV1.out;simp only[Value.slice.injEq] at e;exact e.2.1
  subst hn1;have HW1:=hide (Cx n 1000 w3);have HX1:Hid (SF=if(decide (0≤n)&&decide (n≤1000))=false then(3,dZ) else eU p ss n.toNat ⟨K,N,lev,rn,dn⟩):=by show _=_;rw[HX.out];simp
  have hA:(decide (0≤n)&&decide (n≤1000))=true→0≤n∧n≤1000:=fun h=>by simpa using h
  have HA:=hide hA;have HRP:=hide hp;have HRN:=hide hRN;have HSm:=hide hsm;have HSS:=hide hss;clear HX HGo HS1 hp hss hRN hsm hA;generalize(decide (0≤n)&&decide (n≤1000))=A at*;cases A with
  |false=>
   have HX2:Hid (SF=(3,dZ)):=by show _=_;rw[HX1.out];rfl
   go_wp2_with fail
   refine HW1.out.mono ?_;rintro e w4 ⟨rfl,h4⟩;obtain rfl:w3=w4:=h4.symm;clear h4;go_wp2;obtain⟨r0,r1,r2,r3,r4⟩:=yR Jk.out (.slice none 0 0) (.slice none 0 0) (.int .i64 0) (.int .i64 0) (.bool false);exact bodyPost_ret (v:=.tuple #[.agg #[.slice none 0 0,.slice none 0 0,.int .i64 0,.int .i64 0,.bool false],.int .i64 3]) (by simp[results,Tryz.results36,go_sem,r0,r1,r2,r3,r4]) rfl ⟨_,3,rfl,by rw[HX2.out];exact⟨rfl,oh.none _ _⟩,Below.gD HB3.out (Nat.le_succ _)⟩
  |true=>
   obtain⟨hn0,hn1⟩:=HA.out rfl;obtain⟨m,rfl⟩:∃m:Nat,n=(m:Int):=⟨n.toNat,by omega⟩;have HX2:Hid (SF=eU p ss m ⟨K,N,lev,rn,dn⟩):=by show _=_;rw[HX1.out];simp
   have HOw:=hide (O6 ⟨K,N,lev,rn,dn⟩ (.slice ka K.length kc) (.slice na N.length nc) w3 (HK.out.below HB3.out) (HN.out.below HB3.out));clear HX1 HA
   go_wp2_with fail
   refine HW1.out.mono ?_;rintro e w4 ⟨rfl,h4⟩;obtain rfl:w3=w4:=h4.symm;clear h4 HW1
   go_wp2_with fail
   refine HOw.out.mono ?_;rintro e w4 ⟨v4,rfl,hR4,hB4⟩;obtain⟨xa,xc,ya,yc,rfl,hO4,hN4⟩:=hR4.slices;dsimp only at hO4 hN4⊢;have HB4:Hid (Below w.heap.size w w4):=aj HB3.out hB4 HB3.out.size;have hr4:w4.heap[w.heap.size]?=some (.cells #[.slice ka K.length kc,.slice na N.length nc,.int .i64 lev,.int .i64 rn,.bool dn] 47 (0,0)):=by rw[hB4.block _ (by omega)];exact MI.out
   have hs4:w4.heap[w.heap.size+1]?=some (.cells #[.slice none 0 0,.slice none 0 0,.int .i64 0,.int .i64 0,.bool false] 47 (0,0)):=by rw[hB4.block _ (by omega)];exact Jk.out
   have hz4:w.heap.size+2≤w4.heap.size:=by have:=hB4.size;omega
   clear b0 b1 b2 b3 b4 q0 q1 q2 q3 q4 f0 f1 f2 f3 f4;have HO5:Hid (bY (gD w4 w.heap.size (.slice xa K.length xc) (.slice ya N.length yc) (.int .i64 lev) (.int .i64 rn) (.bool dn)) (w.heap.size+2) (.slice xa K.length xc) K):=(hO4.base (by omega)).gD (by omega);have HN5:Hid (bY (gD w4 w.heap.size (.slice xa K.length xc) (.slice ya N.length yc) (.int .i64 lev) (.int .i64 rn) (.bool dn)) (w.heap.size+2) (.slice ya N.length yc) N):=(hN4.base (by omega)).gD (by omega);have Qr:=hide (pK hr4 (.slice xa K.length xc) (.slice ya N.length yc) (.int .i64 lev) (.int .i64 rn) (.bool dn));have O8:Hid ((gD w4 w.heap.size (.slice xa K.length xc) (.slice ya N.length yc) (.int .i64 lev) (.int .i64 rn) (.bool dn)).heap[w.heap.size+1]?=some (.cells #[.slice none 0 0,.slice none 0 0,.int .i64 0,.int .i64 0,.bool false] 47 (0,0))):=by show _=_;rw[(lG w4 w.heap.size _ _ _ _ _).block _ (by omega) (by omega)];exact hs4
   have HB5:Hid (Below w.heap.size w (gD w4 w.heap.size (.slice xa K.length xc) (.slice ya N.length yc) (.int .i64 lev) (.int .i64 rn) (.bool dn))):=Below.gD HB4.out (Nat.le_refl _);have HV5:Hid (oG.sl (From (w.heap.size+2)) (gD w4 w.heap.size (.slice xa K.length xc) (.slice ya N.length yc) (.int .i64 lev) (.int .i64 rn) (.bool dn)) (.slice a1 ss.length c1) ss):=Kind.aM (Kind.pO HV1.out hB4) (lG _ _ _ _ _ _ _).size fun k hk hb=>(lG w4 w.heap.size _ _ _ _ _).block k hk (by have:w.heap.size+2≤k:=hb;omega);obtain⟨b0,b1,b2,b3,b4,⟨g0,g1,g2,g3,g4⟩,_⟩:=dR hr4;clear hr4 hs4 hO4 hN4 hR4 hB4 HOw MI Jk;go_wp2
   go_loopg [2,9] m (fun g nn ee wr=>∃k:Nat,k=g∧nn=.int .i64 k∧ee=.int .i64 0∧k≤1000∧∃(X:fG) (xa ya:Option Addr) (xc yc:Nat),Hid (jQ p (countP (p.map σ)) X)∧Hid (wr.heap[w.heap.size]?=some (.cells #[.slice xa X.known.length xc,.slice ya X.fresh.length yc,.int .i64 X.level,.int .i64 X.rounds,.bool X.done] 47 (0,0)))∧
    Hid (bY wr (w.heap.size+2) (.slice xa X.known.length xc) X.known)∧Hid (bY wr (w.heap.size+2) (.slice ya X.fresh.length yc) X.fresh)∧Hid (wr.heap[w.heap.size+1]?=some (.cells #[.slice none 0 0,.slice none 0 0,.int .i64 0,.int .i64 0,.bool false] 47 (0,0)))∧Hid (Below w.heap.size w wr)∧w.heap.size+2≤wr.heap.size∧Hid (oG.sl (From (w.heap.size+2)) wr (.slice a1 ss.length c1) ss)∧Hid (SF=eU p ss k X))
   case atStart=>exact⟨m,rfl,rfl,rfl,by omega,⟨K,N,lev,rn,dn⟩,xa,ya,xc,yc,HRN,Qr,HO5,HN5,O8,HB5,by simp only[size_setCell];exact hz4,HV5,HX2⟩
   case round=>
    clear HRN Qr HO5 HN5 O8 HB5 HX2 HV5 HV1 b0 b1 b2 b3 b4 g0 g1 g2 g3 g4 HB4 hz4 HB3 hz3 HK HN;obtain⟨k,hkg,rfl,rfl,hk1,X,xa,ya,xc,yc,HRN,HRb,HO,HN',HRs,HB,hz,HVr,HX⟩:=hrel
    by_cases hk0:k=0
    ·have hkz:¬((0:Int)<(k:Int)):=by omega
     have HT:Hid (SF=(0,X)):=by show _=_;rw[HX.out,hk0];rfl
     clear hk0;obtain⟨b0,b1,b2,b3,b4,_,_⟩:=dR HRb.out;obtain⟨q0,q1,q2,q3,q4,⟨f0,f1,f2,f3,f4⟩,_⟩:=dR HRs.out;go_wp2;obtain⟨r0,r1,r2,r3,r4⟩:=yR HRs.out (.slice xa X.known.length xc) (.slice ya X.fresh.length yc) (.int .i64 X.level) (.int .i64 X.rounds) (.bool X.done);exact bodyPost_ret (v:=.tuple #[.agg #[.slice xa X.known.length xc,.slice ya X.fresh.length yc,.int .i64 X.level,.int .i64 X.rounds,.bool X.done],.int .i64 0]) (by simp[results,Tryz.results36,go_sem,r0,r1,r2,r3,r4]) rfl
      ⟨_,0,rfl,by rw[HT.out];exact⟨rfl,_,_,rfl,HO.out.gD (by omega),HN'.out.gD (by omega)⟩,Below.gD HB.out (Nat.le_succ _)⟩
    ·obtain⟨k,rfl⟩:∃k',k=k'+1:=⟨k-1,by omega⟩;cases hdn:X.done with
     |true=>
      have HT:Hid (SF=(0,X)):=by show _=_;rw[HX.out];exact mW hdn _
      obtain⟨b0,b1,b2,b3,b4,_,_⟩:=dR HRb.out;obtain⟨q0,q1,q2,q3,q4,⟨f0,f1,f2,f3,f4⟩,_⟩:=dR HRs.out;rw[hdn] at b4;have HDn:=hide hdn;clear hdn;go_wp2;obtain⟨r0,r1,r2,r3,r4⟩:=yR HRs.out (.slice xa X.known.length xc) (.slice ya X.fresh.length yc) (.int .i64 X.level) (.int .i64 X.rounds) (.bool true);exact bodyPost_ret (v:=.tuple #[.agg #[.slice xa X.known.length xc,.slice ya X.fresh.length yc,.int .i64 X.level,.int .i64 X.rounds,.bool true],.int .i64 0]) (by simp[results,Tryz.results36,go_sem,r0,r1,r2,r3,r4]) rfl
       ⟨_,0,rfl,by rw[HT.out];exact⟨rfl,_,_,by rw[HDn.out],HO.out.gD (by omega),HN'.out.gD (by omega)⟩,Below.gD HB.out (Nat.le_succ _)⟩
     |false=>
      have hX1:=HX.out;rw[qh hdn] at hX1;have HX1:=hide hX1;have hNx:=Rs p HRP.out σ X HRN.out hdn HSm.out (.slice pa p.length pc) (.slice a1 ss.length c1) (.slice xa X.known.length xc) (.slice ya X.fresh.length yc) wr (Kind.aY HV.out HB.out) (by rw[←HSS.out];exact Kind.dz HVr.out) (HO.out.facts (by have:=HRN.out.good.few;omega)) (HN'.out.facts (by have:=Nat.le_trans (sO HRN.out.up HRN.out.sub) HRN.out.good.few;omega));rw[←HSS.out] at hNx;obtain⟨er,Y,hY⟩:∃er Y,iQ p ss X=(er,Y):=⟨_,_,rfl⟩;have HRY:Hid (er=0→jQ p (countP (p.map σ)) Y):=fun h=>(qg HRP.out σ HRN.out hdn (by rw[←HSS.out,hY,h])).1;rw[hY,hdn] at hNx;rw[hY] at HX1;have HNx:=hide hNx;have Qs:=HRb;rw[hdn] at Qs;obtain⟨b0,b1,b2,b3,b4,_,_⟩:=dR Qs.out;have hkp:(0:Int)<((k+1:Nat):Int):=by omega
      clear hNx hY hX1 hdn HX
      go_wp2_with fail
      refine HNx.out.mono ?_;rintro e w5 ⟨v5,er',rfl,⟨her,hR5⟩,hB5⟩;dsimp only at her hR5;obtain rfl:er=er':=her.symm;clear her;obtain⟨za,zc,ua,uc,rfl,hO5,hN5⟩:=hR5.slices;have hr5:w5.heap[w.heap.size]?=some (.cells #[.slice xa X.known.length xc,.slice ya X.fresh.length yc,.int .i64 X.level,.int .i64 X.rounds,.bool false] 47 (0,0)):=by rw[hB5.block _ (by omega)];exact Qs.out
      have hs5:w5.heap[w.heap.size+1]?=some (.cells #[.slice none 0 0,.slice none 0 0,.int .i64 0,.int .i64 0,.bool false] 47 (0,0)):=by rw[hB5.block _ (by omega)];exact HRs.out
      have hz5:w.heap.size+2≤w5.heap.size:=by have:=hB5.size;omega
      have Qr:=hide (pK hr5 (.slice za Y.known.length zc) (.slice ua Y.fresh.length uc) (.int .i64 Y.level) (.int .i64 Y.rounds) (.bool Y.done));have O8:Hid ((gD w5 w.heap.size (.slice za Y.known.length zc) (.slice ua Y.fresh.length uc) (.int .i64 Y.level) (.int .i64 Y.rounds) (.bool Y.done)).heap[w.heap.size+1]?=some (.cells #[.slice none 0 0,.slice none 0 0,.int .i64 0,.int .i64 0,.bool false] 47 (0,0))):=by show _=_;rw[(lG w5 w.heap.size _ _ _ _ _).block _ (by omega) (by omega)];exact hs5
      have HB5:Hid (Below w.heap.size w (gD w5 w.heap.size (.slice za Y.known.length zc) (.slice ua Y.fresh.length uc) (.int .i64 Y.level) (.int .i64 Y.rounds) (.bool Y.done))):=Below.gD (aj HB.out hB5 HB.out.size) (Nat.le_refl _);have HO5:Hid (bY (gD w5 w.heap.size (.slice za Y.known.length zc) (.slice ua Y.fresh.length uc) (.int .i64 Y.level) (.int .i64 Y.rounds) (.bool Y.done)) (w.heap.size+2) (.slice za Y.known.length zc) Y.known):=(hO5.base (by omega)).gD (by omega);have HN5:Hid (bY (gD w5 w.heap.size (.slice za Y.known.length zc) (.slice ua Y.fresh.length uc) (.int .i64 Y.level) (.int .i64 Y.rounds) (.bool Y.done)) (w.heap.size+2) (.slice ua Y.fresh.length uc) Y.fresh):=(hN5.base (by omega)).gD (by omega);have HV5:Hid (oG.sl (From (w.heap.size+2)) (gD w5 w.heap.size (.slice za Y.known.length zc) (.slice ua Y.fresh.length uc) (.int .i64 Y.level) (.int .i64 Y.rounds) (.bool Y.done)) (.slice a1 ss.length c1) ss):=Kind.aM (Kind.pO HVr.out hB5) (lG _ _ _ _ _ _ _).size fun k hk hb=>(lG w5 w.heap.size _ _ _ _ _).block k hk (by have:w.heap.size+2≤k:=hb;omega);clear b0 b1 b2 b3 b4;obtain⟨b0,b1,b2,b3,b4,⟨g0,g1,g2,g3,g4⟩,_⟩:=dR hr5;obtain⟨q0,q1,q2,q3,q4,⟨f0,f1,f2,f3,f4⟩,_⟩:=dR hs5;clear hR5 hB5 hO5 hN5 hr5 hs5 HNx HRb Qs HO HN' HRs HB hz HVr HRN
      by_cases he:er=0
      ·subst he;have HX5:Hid (SF=eU p ss k Y):=by show _=_;rw[HX1.out];simp
       have VP:=hide (HRY.out rfl);clear HX1 HRY;go_wp2
       go_roundg k
       case measure=>omega
       case rel=>exact⟨k,rfl,by go_num,rfl,by omega,Y,za,ua,zc,uc,VP,Qr,HO5,HN5,O8,HB5,by simp only[size_setCell];exact hz5,HV5,HX5⟩
      ·have HX5:Hid (SF=(er,dZ)):=by show _=_;rw[HX1.out,if_pos he]
       have hne:(er != 0)=true:=by simpa using he
       clear HX1 HRY he;go_wp2;obtain⟨r0,r1,r2,r3,r4⟩:=yR O8.out (.slice none 0 0) (.slice none 0 0) (.int .i64 0) (.int .i64 0) (.bool false);unfold gD at r0 r1 r2 r3 r4;exact bodyPost_ret (v:=.tuple #[.agg #[.slice none 0 0,.slice none 0 0,.int .i64 0,.int .i64 0,.bool false],.int .i64 er]) (by simp[results,Tryz.results36,go_sem,r0,r1,r2,r3,r4]) rfl ⟨_,er,rfl,by rw[HX5.out];exact⟨rfl,oh.none _ _⟩,Below.gD HB5.out (Nat.le_succ _)⟩
 ·have HX1:Hid (SF=(R,dZ)):=by show _=_;rw[HX.out,if_pos h0]
  have hne:(R != 0)=true:=by simpa using h0
  clear HX HGo HS1 h0;go_wp2;obtain⟨r0,r1,r2,r3,r4⟩:=yR Jk.out (.slice none 0 0) (.slice none 0 0) (.int .i64 0) (.int .i64 0) (.bool false);exact bodyPost_ret (v:=.tuple #[.agg #[.slice none 0 0,.slice none 0 0,.int .i64 0,.int .i64 0,.bool false],.int .i64 R]) (by simp[results,Tryz.results36,go_sem,r0,r1,r2,r3,r4]) rfl ⟨_,R,rfl,by rw[HX1.out];exact⟨rfl,oh.none _ _⟩,Below.gD HB3.out (Nat.le_succ _)⟩
end Go.Proofs.YtafmbokfkbccaaaGreatDoor
