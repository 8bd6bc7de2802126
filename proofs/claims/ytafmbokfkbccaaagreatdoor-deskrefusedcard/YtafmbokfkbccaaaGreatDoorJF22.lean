import Derived.Test.YtafmbokfkbccaaaGreatDoorJF5
import Derived.Test.YtafmbokfkbccaaaGreatDoorJF20
import Derived.Test.YtafmbokfkbccaaaGreatDoorJF21
namespace Go.Proofs.YtafmbokfkbccaaaGreatDoor
def VY (p:List aB) (ss:List Nat) (c k n:Nat) (K:List au):Int×List au:=if(jo p ss n k K).1≠0 then((jo p ss n k K).1,[]) else oO p ss c (n+1) (jo p ss n k K).2
theorem wX {c:Nat}:∀{ss:List Nat},(∀s∈ss,s<c)→countP ss≤c
 |[],_=>Nat.zero_le _
 |s::ss,h=>by
  have h1:=h s (by simp);have h2:=wX (ss:=ss) fun t ht=>h t (by simp[ht]);simp only[countP];omega
end Go.Proofs.YtafmbokfkbccaaaGreatDoor
namespace Go.Proofs.YtafmbokfkbccaaaGreatDoor
open Go.RowKit Go.Sort
theorem AB {s:ByteArray} (h:isNamed (raw s)=true):s.size<256:=by
 unfold isNamed at h;simp only[Bool.and_eq_true,decide_eq_true_eq] at h;have:=h.1.1;rw[aU] at this;omega
theorem J7 {f:au} (h:kM f):zM f:=⟨AB h.1,by have:=h.2.1;omega,fun t ht=>AB (h.2.2 t ht)⟩
theorem J8 {K N:List au} (hK:Up K) (hN:Up N) (hs:∀f∈N,f∈K):N=K.filter (inB N):=
 vP hN (List.Pairwise.filter _ hK) fun f=>by
  rw[List.mem_filter,bH];exact⟨fun h=>⟨hs f h,h⟩,fun h=>h.2⟩
theorem Fp {p:List aB} {l:List au} (h:pK p l=0):countP (aG p).1≤16:=by
 obtain⟨_,_,τ,_,hs,ht⟩:=iN h;have e:(aG p).1=p.map fun r=>τ r.head.name:=by rw[hs]
 rw[e];refine wX fun s hs'=> ?_;obtain⟨r,hr,rfl⟩:=List.mem_map.1 hs';exact ht r hr
theorem yO {p:List aB} {r:gH} (h:aZ p r=0):Ce r∧Up r.fresh:=by
 obtain⟨h1,hR⟩:=iO h;have hc:=Fp h1;have:=hR.lev;have:=hR.rnd;have:=hR.good.few;exact⟨⟨hR.lev.1,by omega,hR.rnd.1,by omega,by omega,fun f hf=>J7 (hR.good.right f hf),J8 hR.good.up hR.up hR.sub⟩,hR.up⟩
def jU (p:List aB) (r:gH):Int×Bs:=if aZ p r≠0 then(aZ p r,[]) else(0,y7 r)
def mG (p:List aB) (b:Bs):Int×gH:=if(lQ b).2=false then(2,dZ) else if aZ p (lQ b).1≠0 then(aZ p (lQ b).1,dZ) else(0,(lQ b).1)
theorem jw.nil (lo:Nat) (w:World):jw lo w (.slice none 0 0) []:=World.ownsRow_nil w lo _ 1
theorem jw.sl {lo:Nat} {w:World} {v:Value} {l:Bs} (h:jw lo w v l) (hl:l.length≤8796093022208):kS.sl (From lo) w v l:=by
 rcases h.2 with⟨rfl,e⟩|⟨g,cap,cur,rfl,hbg,hg,hnc,_⟩
 ·have:l=[]:=List.eq_nil_of_length_eq_zero e;subst this;exact kS.dh _ _ _ _
 ·refine⟨⟨hl,hnc⟩,_,cap,rfl,fun _=>⟨g,0,rfl,hbg,(Array.getElem?_eq_some_iff.1 hg).1,fun i x hi=>⟨_,rfl,fun j u hu=> ?_⟩⟩⟩;have hj:j=0:=by have:=(List.getElem?_eq_some_iff.1 hu).1;simp at this;exact this
  subst hj;simp at hu;subst hu;have:=World.ownsRow.cells h (g:=g) rfl i (.int .u8 (x.toNat:Int)) (by simp[kP,hi]);rw[Addr.add_lit] at this;simpa[kS] using this
set_option maxRecDepth 100000 in
set_option maxHeartbeats 2000000 in
theorem RX (p:List aB) (r:gH) (pv kv nv:Value) (w:World) (hv:dO.sl bY w pv p) (hk:Facts w kv r.known) (hn:Facts w nv r.fresh):
  Calls Tryz.prog 25 #[pv,.agg #[kv,nv,.int .i64 r.level,.int .i64 r.rounds,.bool r.done]] w fun e w'=>∃v,e=.returned (.tuple #[v,.int .i64 (jU p r).1])∧jw w.heap.size w' v (jU p r).2∧Below w.heap.size w w':=by
 obtain⟨pa,pc,rfl⟩:=Kind.slice hv;obtain⟨ka,kc,rfl⟩:=aA hk;obtain⟨na,nc,rfl⟩:=aA hn;obtain⟨w1,hw1⟩:∃w1,w1=w.alloc (.cells #[.slice ka r.known.length kc,.slice na r.fresh.length nc,.int .i64 r.level,.int .i64 r.rounds,.bool r.done] 47):=⟨_,rfl⟩;have hL1:Later w w1:=by rw[hw1];exact(Later.refl w).alloc _
 have hr1:w1.heap[w.heap.size]?=some (.cells #[.slice ka r.known.length kc,.slice na r.fresh.length nc,.int .i64 r.level,.int .i64 r.rounds,.bool r.done] 47 (0,0)):=by rw[hw1];exact heap_alloc_new w _
 have hlt1:=(Array.getElem?_eq_some_iff.1 hr1).1;have HWr:=hide (AA p r (.slice pa p.length pc) _ _ w1 (Kind.aN hv hL1) (hk.later hL1) (hn.later hL1));have HX:Hid (jU p r=if aZ p r≠0 then(aZ p r,[]) else(0,y7 r)):=(rfl:_=_);have HBy:Hid (aZ p r=0→Ce r∧Up r.fresh):=yO;have HK:=hide (hk.later hL1);have HN:=hide (hn.later hL1);have HW1:=hide hw1;have HR1:=hide hr1;have HL1:=hide hL1;obtain⟨q0,q1,q2,q3,q4,_,_⟩:=dJ hr1;clear hv hk hn hL1 hw1 hr1;generalize aZ p r=we at*
 go_enter Tryz.func25,Tryz.ntmps25
 go_wp2_with (first|(rw[←HW1.out])|fail)
 refine HWr.out.mono ?_;rintro e w2 ⟨rfl,hB2⟩;have hr2:=(hB2.block _ hlt1).trans HR1.out;have HB2:=hide (aj HL1.out.below hB2 HL1.out.size);have hsz:=HL1.out.size
 by_cases h0:we=0
 ·subst h0;obtain⟨hby,hup⟩:=HBy.out rfl;have HX1:Hid (jU p r=(0,y7 r)):=by show _=_;rw[HX.out];simp
  obtain⟨K,N,lv,ro,dn⟩:=r;dsimp only at*;obtain⟨lv,rfl⟩:∃n:Nat,lv=(n:Int):=⟨lv.toNat,by have:=hby.Vt;simp only at this;omega⟩;obtain⟨ro,rfl⟩:∃n:Nat,ro=(n:Int):=⟨ro.toNat,by have:=hby.Vu;simp only at this;omega⟩;have HC:=hide (J5 K N lv ro dn (.slice ka K.length kc) (.slice na N.length nc) w2 (HK.out.below hB2) (HN.out.below hB2) hby hup);obtain⟨q0,q1,q2,q3,q4,_,_⟩:=dJ hr2;clear HX HBy hby hup hr2 hB2 HK HN HWr HW1 HR1
  go_wp2_with fail
  refine HC.out.mono ?_;rintro e w3 ⟨v3,rfl,hO3,hB3⟩;obtain⟨a3,n3,c3,rfl⟩:=hO3.slice3;have HO3:=hide hO3;have HB3:=hide (aj HB2.out hB3 HB2.out.size);have hz2:=HB2.out.size;clear hO3 hB3 HC;go_wp2
  go_ret2
  exact⟨.slice a3 n3 c3,by rw[HX1.out];rfl,by rw[HX1.out];exact HO3.out.low hz2,HB3.out⟩
 ·have HX1:Hid (jU p r=(we,[])):=by show _=_;rw[HX.out,if_pos h0]
  have hne:(we != 0)=true:=by simpa using h0
  clear HX HBy hr2 hB2 HK HN HWr HW1 HR1 h0;go_wp2
  go_ret2
  exact⟨.slice none 0 0,by rw[HX1.out];rfl,by rw[HX1.out];exact jw.nil _ _,HB2.out⟩
set_option maxRecDepth 100000 in
set_option maxHeartbeats 2000000 in
theorem RY (b:Bs) (bv:Value) (w:World) (hb:dI bY w bv b):
  Calls Tryz.prog 74 #[bv] w fun e w'=>∃v,e=.returned (.tuple #[v,.bool (lQ b).2])∧pI w.heap.size w' v (lQ b).1∧Below w.heap.size w w':=by
 obtain⟨ba,bn,bc,rfl⟩:∃a n c,bv=.slice a n c:=by obtain⟨a,c,e⟩:=dI.slice hb;exact⟨a,_,c,e⟩
 obtain⟨w1,hw1⟩:∃w1,w1=w.alloc (.cells #[.slice none 0 0,.slice none 0 0,.int .i64 0,.int .i64 0,.bool false] 47):=⟨_,rfl⟩;obtain⟨w2,hw2⟩:∃w2,w2=w1.alloc (.cells #[.slice ba bn bc,.bool false] 206):=⟨_,rfl⟩;have hz1:w1.heap.size=w.heap.size+1:=by rw[hw1];simp
 have hz2:w2.heap.size=w.heap.size+2:=by rw[hw2];simp;omega
 have hL2:Later w w2:=by rw[hw2,hw1];exact((Later.refl w).alloc _).alloc _
 have DT:Later w1 w2:=by rw[hw2];exact(Later.refl w1).alloc _
 have hr1:w1.heap[w.heap.size]?=some (.cells #[.slice none 0 0,.slice none 0 0,.int .i64 0,.int .i64 0,.bool false] 47 (0,0)):=by rw[hw1];exact heap_alloc_new w _
 have hr2:w2.heap[w.heap.size]?=some (.cells #[.slice none 0 0,.slice none 0 0,.int .i64 0,.int .i64 0,.bool false] 47 (0,0)):=(DT.block (by omega)).trans hr1;have hp2:w2.heap[w.heap.size+1]?=some (.cells #[.slice ba bn bc,.bool false] 206 (0,0)):=by
  have:=heap_alloc_new w1 (.cells #[.slice ba bn bc,.bool false] 206);rw[hw2,←hz1];exact this
 have hR2:RdB w2 (w.heap.size+1) (w.heap.size+2) (b,false):=⟨_,hp2,dI.kept (dI.mono hb fun k hk _=>⟨by omega,by omega⟩) hL2.size fun k hk _=>hL2.block hk⟩;have LP:=hide (RQ (w.heap.size+1) (w.heap.size+2) (b,false) w2 hR2 (by omega) (by omega));have HX:Hid (lQ b=((BA (b,false)).1,!(BA (b,false)).2.2&&decide ((BA (b,false)).2.1=[]))):=(rfl:_=_);have HW1:=hide hw1;have HW2:=hide hw2;have HR2:=hide hr2;have HL2:=hide hL2;clear hb hw1 hw2 hL2 DT hr1 hr2 hp2 hR2
 go_enter Tryz.func74,Tryz.ntmps74
 go_wp2_with (first|(rw[←HW1.out])|(rw[←HW2.out])|fail)
 refine LP.out.mono ?_;rintro e w3 ⟨v3,rfl,hO3,hR3,hT3⟩;obtain⟨⟨K,N,lv,ro,dn⟩,l3,am,hrr⟩:∃r l a,BA (b,false)=(r,(l,a)):=⟨_,_,_,rfl⟩;rw[hrr] at hO3 hR3;obtain⟨kv,nv,rfl,hk3,hn3⟩:=hO3;obtain⟨ka,kc,rfl⟩:=hk3.slice;obtain⟨na,nc,rfl⟩:=hn3.slice;dsimp only at*;obtain⟨w4,hw4⟩:∃w4,w4=w3.alloc (.cells #[.slice ka K.length kc,.slice na N.length nc,.int .i64 lv,.int .i64 ro,.bool dn] 47):=⟨_,rfl⟩;have hL4:Later w3 w4:=by rw[hw4];exact(Later.refl w3).alloc _
 have hr4:w4.heap[w3.heap.size]?=some (.cells #[.slice ka K.length kc,.slice na N.length nc,.int .i64 lv,.int .i64 ro,.bool dn] 47 (0,0)):=by rw[hw4];exact heap_alloc_new w3 _
 have Xp:=(Array.getElem?_eq_some_iff.1 hr4).1;have hz3:=hT3.size;have hz4:=hL4.size;obtain⟨xv,hx3,hxs⟩:=hR3;obtain⟨xa,xc,rfl⟩:=dI.slice hxs;have hxl:=hxs.1.1;have hx4:=(hL4.block (Array.getElem?_eq_some_iff.1 hx3).1).trans hx3;have Fq:=(hL4.block (by omega)).trans ((hT3.block w.heap.size (by omega) (by omega)).trans HR2.out);have HX1:Hid (lQ b=(⟨K,N,lv,ro,dn⟩,!am&&decide (l3=[]))):=by show _=_;rw[HX.out,hrr]
 have HK4:Hid (cu w4 (w.heap.size+2) (.slice ka K.length kc) K):=(hk3.base (by omega)).later hL4;have HN4:Hid (cu w4 (w.heap.size+2) (.slice na N.length nc) N):=(hn3.base (by omega)).later hL4;have HB4:Hid (Below w.heap.size w w4):=(HL2.out.below.trans ⟨hT3.os,hT3.tape,hT3.output,hT3.size,fun k hk=>hT3.block k (by omega) (by omega)⟩).trans (hL4.below.mono (by omega));have HS:Hid (∀w':World,w'.heap[w.heap.size+1]?=w4.heap[w.heap.size+1]?∧w'.heap[w3.heap.size]?=w4.heap[w3.heap.size]?→w'.cell? ⟨w.heap.size+1,0,none⟩=some (.slice xa l3.length xc)∧w'.cell? ⟨w.heap.size+1,1,none⟩=some (.bool am)∧w'.heap[w3.heap.size]?=some (.cells #[.slice ka K.length kc,.slice na N.length nc,.int .i64 lv,.int .i64 ro,.bool dn] 47 (0,0))):=fun w' h=>by
  have h1:=F8 (h.1.trans hx4);exact⟨h1.1,h1.2.1,h.2.trans hr4⟩
 have HRs:=hide Fq;have HW4:=hide hw4;have Ud:w.heap.size<w4.heap.size:=by omega
 clear hrr hk3 hn3 hw4 hL4 hr4 hx3 hxs hx4 Fq HX HR2 HL2 LP HW1 HW2 hT3;have hd:(((l3.length:Nat):Int)==0)=decide (l3=[]):=by
  cases l3 with
  |nil=>rfl
  |cons c l=>simp;omega
 have HD:=hide hd;clear hd;generalize l3.length=ln at*
 go_wp2_with (first|(rw[←HW4.out])|fail)
 refine wp_region_held_drew (S:=fun w'=>w'.heap[w.heap.size+1]?=w4.heap[w.heap.size+1]?∧w'.heap[w3.heap.size]?=w4.heap[w3.heap.size]?) (by kernel_rfl) ⟨rfl,rfl⟩ (fun hHeld=> ?_);cases am with
 |true=>
  refine ak (i:=0) (d:=some 9) (v:= ?_) rfl rfl hHeld ?_ ?_;rotate_left;focus intro w hSw;(try dsimp only at hSw);obtain⟨s0,s1,s2⟩:=HS.out _ hSw;obtain⟨p0,p1,p2,p3,p4,_,_⟩:=dJ s2;go_simp;try with_reducible rfl
  simp only[aK,aL,aze,asu];refine ak (i:=1) (d:=some 10) (v:= ?_) rfl rfl hHeld ?_ ?_;rotate_left;focus intro w hSw;(try dsimp only at hSw);obtain⟨s0,s1,s2⟩:=HS.out _ hSw;obtain⟨p0,p1,p2,p3,p4,_,_⟩:=dJ s2;go_simp;try with_reducible rfl
  simp only[aK,aL,aze,asu];refine ak (i:=2) (d:=some 11) (v:= ?_) rfl rfl hHeld ?_ ?_;rotate_left;focus intro w hSw;(try dsimp only at hSw);obtain⟨s0,s1,s2⟩:=HS.out _ hSw;obtain⟨p0,p1,p2,p3,p4,_,_⟩:=dJ s2;go_simp;try with_reducible rfl
  simp only[aK,aL,aze,asu];refine ak (i:=3) (d:=some 12) (v:= ?_) rfl rfl hHeld ?_ ?_;rotate_left;focus intro w hSw;(try dsimp only at hSw);obtain⟨s0,s1,s2⟩:=HS.out _ hSw;obtain⟨p0,p1,p2,p3,p4,_,_⟩:=dJ s2;go_simp;try with_reducible rfl
  simp only[aK,aL,aze,asu];refine ak (i:=4) (d:=some 13) (v:= ?_) rfl rfl hHeld ?_ ?_;rotate_left;focus intro w hSw;(try dsimp only at hSw);obtain⟨s0,s1,s2⟩:=HS.out _ hSw;obtain⟨p0,p1,p2,p3,p4,_,_⟩:=dJ s2;go_simp;try with_reducible rfl
  simp only[aK,aL,aze,asu];refine lF (i:=5) (d:=some 14) rfl rfl hHeld ?_;simp only[aK,aL,aze,asu];refine lF (i:=6) (d:=some 15) rfl rfl hHeld ?_;simp only[aK,aL,aze,asu];refine lF (i:=7) (d:=some 16) rfl rfl hHeld ?_;simp only[aK,aL,aze,asu];refine lF (i:=8) (d:=some 17) rfl rfl hHeld ?_;simp only[aK,aL,aze,asu];refine ak (i:=9) (d:=some 18) (v:= ?_) rfl rfl hHeld ?_ ?_;rotate_left;focus intro w hSw;(try dsimp only at hSw);go_simp;try with_reducible rfl
  simp only[aK,aL,aze,asu];refine wpAnyH_ready (rs:=[10]) (by kernel_rfl) (by simp) ?_;refine AllReadyH.cons rfl (fun K' hK=> ?_) AllReadyH.nil;obtain⟨g0,g1,g2,g3,g4,⟨f0,f1,f2,f3,f4⟩,_⟩:=dJ HRs.out;go_simp;have hTp:=lI w4 w.heap.size (.slice ka K.length kc) (.slice na N.length nc) (.int .i64 lv) (.int .i64 ro) (.bool dn);obtain⟨w6,hw6⟩:∃w6,w6=gy w4 w.heap.size (.slice ka K.length kc) (.slice na N.length nc) (.int .i64 lv) (.int .i64 ro) (.bool dn):=⟨_,rfl⟩;have MR:=hw6;unfold gy at MR;rw[←MR];rw[←hw6] at hTp;have qA:w6.heap[w.heap.size]?=some (.cells #[.slice ka K.length kc,.slice na N.length nc,.int .i64 lv,.int .i64 ro,.bool dn] 47 (0,0)):=by rw[hw6];exact pJ HRs.out _ _ _ _ _
  have HK6:Hid (cu w6 (w.heap.size+2) (.slice ka K.length kc) K):=by show cu _ _ _ _;rw[hw6];exact HK4.out.gy (by omega)
  have HN6:Hid (cu w6 (w.heap.size+2) (.slice na N.length nc) N):=by show cu _ _ _ _;rw[hw6];exact HN4.out.gy (by omega)
  have HB6:Hid (Below w.heap.size w w6):=by show Below _ _ _;rw[hw6];exact Below.gy HB4.out (Nat.le_refl _)
  obtain⟨r0,r1,r2,r3,r4,_,_⟩:=dJ qA;clear hw6 MR qA;refine hK.out _ _ ⟨hTp.block _ (by omega) (by omega),hTp.block _ (by omega) (by omega)⟩ (fun hHeld=> ?_);clear hTp;clear hK K';refine wpAnyH_ready (rs:=[11]) (by kernel_rfl) (by simp) ?_;refine AllReadyH.cons rfl (fun K' hK=> ?_) AllReadyH.nil;go_simp;refine hK.out _ _ hHeld (fun hHeld=> ?_);clear hK K' hHeld;refine wpAnyH_done (by kernel_rfl) ?_ _;clear g0 g1 g2 g3 g4 f0 f1 f2 f3 f4;go_wp2;exact bodyPost_ret (v:=.tuple #[.agg #[.slice ka K.length kc,.slice na N.length nc,.int .i64 lv,.int .i64 ro,.bool dn],.bool false]) (by simp[results,Tryz.results74,go_sem,r0,r1,r2,r3,r4]) rfl
   ⟨_,by rw[HX1.out];rfl,by rw[HX1.out];exact⟨_,_,rfl,(HK6.out.later (Later.refl _).drew).base (by omega),(HN6.out.later (Later.refl _).drew).base (by omega)⟩,HB6.out.trans (Below.refl _ _).drew⟩
 |false=>
  refine ak (i:=0) (d:=some 9) (v:= ?_) rfl rfl hHeld ?_ ?_;rotate_left;focus intro w hSw;(try dsimp only at hSw);obtain⟨s0,s1,s2⟩:=HS.out _ hSw;obtain⟨p0,p1,p2,p3,p4,_,_⟩:=dJ s2;go_simp;try with_reducible rfl
  simp only[aK,aL,aze,asu];refine ak (i:=1) (d:=some 10) (v:= ?_) rfl rfl hHeld ?_ ?_;rotate_left;focus intro w hSw;(try dsimp only at hSw);obtain⟨s0,s1,s2⟩:=HS.out _ hSw;obtain⟨p0,p1,p2,p3,p4,_,_⟩:=dJ s2;go_simp;try with_reducible rfl
  simp only[aK,aL,aze,asu];refine ak (i:=2) (d:=some 11) (v:= ?_) rfl rfl hHeld ?_ ?_;rotate_left;focus intro w hSw;(try dsimp only at hSw);obtain⟨s0,s1,s2⟩:=HS.out _ hSw;obtain⟨p0,p1,p2,p3,p4,_,_⟩:=dJ s2;go_simp;try with_reducible rfl
  simp only[aK,aL,aze,asu];refine ak (i:=3) (d:=some 12) (v:= ?_) rfl rfl hHeld ?_ ?_;rotate_left;focus intro w hSw;(try dsimp only at hSw);obtain⟨s0,s1,s2⟩:=HS.out _ hSw;obtain⟨p0,p1,p2,p3,p4,_,_⟩:=dJ s2;go_simp;try with_reducible rfl
  simp only[aK,aL,aze,asu];refine ak (i:=4) (d:=some 13) (v:= ?_) rfl rfl hHeld ?_ ?_;rotate_left;focus intro w hSw;(try dsimp only at hSw);obtain⟨s0,s1,s2⟩:=HS.out _ hSw;obtain⟨p0,p1,p2,p3,p4,_,_⟩:=dJ s2;go_simp;try with_reducible rfl
  simp only[aK,aL,aze,asu];refine ak (i:=5) (d:=some 14) (v:= ?_) rfl rfl hHeld ?_ ?_;rotate_left;focus intro w hSw;(try dsimp only at hSw);obtain⟨s0,s1,s2⟩:=HS.out _ hSw;obtain⟨p0,p1,p2,p3,p4,_,_⟩:=dJ s2;go_simp;try with_reducible rfl
  simp only[aK,aL,aze,asu];refine ak (i:=6) (d:=some 15) (v:= ?_) rfl rfl hHeld ?_ ?_;rotate_left;focus intro w hSw;(try dsimp only at hSw);obtain⟨s0,s1,s2⟩:=HS.out _ hSw;obtain⟨p0,p1,p2,p3,p4,_,_⟩:=dJ s2;go_simp;try with_reducible rfl
  simp only[aK,aL,aze,asu];refine ak (i:=7) (d:=some 16) (v:= ?_) rfl rfl hHeld ?_ ?_;rotate_left;focus intro w hSw;(try dsimp only at hSw);obtain⟨s0,s1,s2⟩:=HS.out _ hSw;obtain⟨p0,p1,p2,p3,p4,_,_⟩:=dJ s2;go_simp;try with_reducible rfl
  simp only[aK,aL,aze,asu];refine ak (i:=8) (d:=some 17) (v:= ?_) rfl rfl hHeld ?_ ?_;rotate_left;focus intro w hSw;(try dsimp only at hSw);obtain⟨s0,s1,s2⟩:=HS.out _ hSw;obtain⟨p0,p1,p2,p3,p4,_,_⟩:=dJ s2;go_simp;try with_reducible rfl
  simp only[aK,aL,aze,asu];refine ak (i:=9) (d:=some 18) (v:= ?_) rfl rfl hHeld ?_ ?_;rotate_left;focus intro w hSw;(try dsimp only at hSw);go_simp;try with_reducible rfl
  simp only[aK,aL,aze,asu];refine wpAnyH_ready (rs:=[10]) (by kernel_rfl) (by simp) ?_;refine AllReadyH.cons rfl (fun K' hK=> ?_) AllReadyH.nil;obtain⟨g0,g1,g2,g3,g4,⟨f0,f1,f2,f3,f4⟩,_⟩:=dJ HRs.out;go_simp;have hTp:=lI w4 w.heap.size (.slice ka K.length kc) (.slice na N.length nc) (.int .i64 lv) (.int .i64 ro) (.bool dn);obtain⟨w6,hw6⟩:∃w6,w6=gy w4 w.heap.size (.slice ka K.length kc) (.slice na N.length nc) (.int .i64 lv) (.int .i64 ro) (.bool dn):=⟨_,rfl⟩;have MR:=hw6;unfold gy at MR;rw[←MR];rw[←hw6] at hTp;have qA:w6.heap[w.heap.size]?=some (.cells #[.slice ka K.length kc,.slice na N.length nc,.int .i64 lv,.int .i64 ro,.bool dn] 47 (0,0)):=by rw[hw6];exact pJ HRs.out _ _ _ _ _
  have HK6:Hid (cu w6 (w.heap.size+2) (.slice ka K.length kc) K):=by show cu _ _ _ _;rw[hw6];exact HK4.out.gy (by omega)
  have HN6:Hid (cu w6 (w.heap.size+2) (.slice na N.length nc) N):=by show cu _ _ _ _;rw[hw6];exact HN4.out.gy (by omega)
  have HB6:Hid (Below w.heap.size w w6):=by show Below _ _ _;rw[hw6];exact Below.gy HB4.out (Nat.le_refl _)
  obtain⟨r0,r1,r2,r3,r4,_,_⟩:=dJ qA;clear hw6 MR qA;refine hK.out _ _ ⟨hTp.block _ (by omega) (by omega),hTp.block _ (by omega) (by omega)⟩ (fun hHeld=> ?_);clear hTp;clear hK K';refine wpAnyH_ready (rs:=[11]) (by kernel_rfl) (by simp) ?_;refine AllReadyH.cons rfl (fun K' hK=> ?_) AllReadyH.nil;go_simp;refine hK.out _ _ hHeld (fun hHeld=> ?_);clear hK K' hHeld;refine wpAnyH_done (by kernel_rfl) ?_ _;clear g0 g1 g2 g3 g4 f0 f1 f2 f3 f4;go_wp2;exact bodyPost_ret (v:=.tuple #[.agg #[.slice ka K.length kc,.slice na N.length nc,.int .i64 lv,.int .i64 ro,.bool dn],.bool ((ln:Int)==0)]) (by simp[results,Tryz.results74,go_sem,r0,r1,r2,r3,r4]) rfl
   ⟨_,by rw[HX1.out,HD.out];rfl,by rw[HX1.out];exact⟨_,_,rfl,(HK6.out.later (Later.refl _).drew).base (by omega),(HN6.out.later (Later.refl _).drew).base (by omega)⟩,HB6.out.trans (Below.refl _ _).drew⟩
end Go.Proofs.YtafmbokfkbccaaaGreatDoor
namespace Go.Proofs.YtafmbokfkbccaaaGreatDoor
open Go.RowKit Go.Sort
theorem J9 (b:Bs):(lQ b).1.known.length<256∧(lQ b).1.fresh.length<256:=by
 unfold lQ BA;dsimp only;have h1:(gV (Cc (b,false)).1.2.2.2.2 (Cc (b,false)).2).1.length<256:=by
  rw[wV];unfold Cc;dsimp only;exact lJ _
 exact⟨h1,Nat.lt_of_le_of_lt (Ay _ _) h1⟩
set_option maxRecDepth 100000 in
set_option maxHeartbeats 2000000 in
theorem Po (p:List aB) (b:Bs) (pv bv:Value) (w:World) (hv:dO.sl bY w pv p) (hb:dI bY w bv b):
  Calls Tryz.prog 27 #[pv,bv] w fun e w'=>∃v,e=.returned (.tuple #[v,.int .i64 (mG p b).1])∧pI (w.heap.size+1) w' v (mG p b).2∧Below w.heap.size w w':=by
 obtain⟨pa,pc,rfl⟩:=Kind.slice hv;obtain⟨ba,bc,rfl⟩:=dI.slice hb;obtain⟨w1,hw1⟩:∃w1,w1=w.alloc (.cells #[.slice none 0 0,.slice none 0 0,.int .i64 0,.int .i64 0,.bool false] 47):=⟨_,rfl⟩;have hz1:w1.heap.size=w.heap.size+1:=by rw[hw1];simp
 have hL1:Later w w1:=by rw[hw1];exact(Later.refl w).alloc _
 have hr1:w1.heap[w.heap.size]?=some (.cells #[.slice none 0 0,.slice none 0 0,.int .i64 0,.int .i64 0,.bool false] 47 (0,0)):=by rw[hw1];exact heap_alloc_new w _
 have HRd:=hide (RY b (.slice ba b.length bc) w1 (dI.later hb hL1));have HX:Hid (mG p b=if(lQ b).2=false then(2,dZ) else if aZ p (lQ b).1≠0 then(aZ p (lQ b).1,dZ) else(0,(lQ b).1)):=(rfl:_=_);obtain⟨r,ok,hrb⟩:∃r ok,lQ b=(r,ok):=⟨_,_,rfl⟩;have HFw:Hid (r.known.length<256∧r.fresh.length<256):=by have:=J9 b;rw[hrb] at this;exact this
 rw[hrb] at HX HRd;have HW1:=hide hw1;have HR1:=hide hr1;have HL1:=hide hL1;have HV:=hide (Kind.aN hv hL1);clear hv hb hw1 hL1 hr1 hrb;dsimp only at HX HRd;generalize b.length=bn at*
 go_enter Tryz.func27,Tryz.ntmps27
 go_wp2_with (first|(rw[←HW1.out])|fail)
 refine HRd.out.mono ?_;rintro e w2 ⟨v2,rfl,⟨kv,nv,rfl,hk2,hn2⟩,hB2⟩;obtain⟨ka,kc,rfl⟩:=hk2.slice;obtain⟨na,nc,rfl⟩:=hn2.slice;obtain⟨w3,hw3⟩:∃w3,w3=w2.alloc (.cells #[.slice ka r.known.length kc,.slice na r.fresh.length nc,.int .i64 r.level,.int .i64 r.rounds,.bool r.done] 47):=⟨_,rfl⟩;have hL3:Later w2 w3:=by rw[hw3];exact(Later.refl w2).alloc _
 have hr3:w3.heap[w2.heap.size]?=some (.cells #[.slice ka r.known.length kc,.slice na r.fresh.length nc,.int .i64 r.level,.int .i64 r.rounds,.bool r.done] 47 (0,0)):=by rw[hw3];exact heap_alloc_new w2 _
 have hlt3:=(Array.getElem?_eq_some_iff.1 hr3).1;have F9:Below w1.heap.size w1 w3:=aj hB2 hL3.below hB2.size;have Fe:=(F9.block w.heap.size (by omega)).trans HR1.out;have hz2:=hB2.size;have hkl:r.known.length≤3518437208883:=by have:=HFw.out.1;omega
 have hnl:r.fresh.length≤3518437208883:=by have:=HFw.out.2;omega
 have HK3:Hid (cu w3 (w.heap.size+1) (.slice ka r.known.length kc) r.known):=(hk2.base (by omega)).later hL3;have HN3:Hid (cu w3 (w.heap.size+1) (.slice na r.fresh.length nc) r.fresh):=(hn2.base (by omega)).later hL3;have HB3:Hid (Below w.heap.size w w3):=aj HL1.out.below F9 HL1.out.size;have HWr:=hide (AA p r (.slice pa p.length pc) _ _ w3 (Kind.aX HV.out F9) (HK3.out.facts hkl) (HN3.out.facts hnl));have HR3:=hide hr3;have HS3:=hide Fe;have HW3:=hide hw3;obtain⟨q0,q1,q2,q3,q4,_,_⟩:=dJ hr3;obtain⟨e0,e1,e2,e3,e4,⟨f0,f1,f2,f3,f4⟩,Ud⟩:=dJ Fe;clear hk2 hn2 hw3 hL3 hr3 Fe hB2 F9 HRd HR1 HW1;cases ok with
 |false=>
  have HX1:Hid (mG p b=(2,dZ)):=by show _=_;rw[HX.out];rfl
  clear HX HWr
  go_wp2_with (first|(rw[←HW3.out])|fail)
  obtain⟨r0,r1,r2,r3,r4⟩:=yN HS3.out (.slice none 0 0) (.slice none 0 0) (.int .i64 0) (.int .i64 0) (.bool false);exact bodyPost_ret (v:=.tuple #[.agg #[.slice none 0 0,.slice none 0 0,.int .i64 0,.int .i64 0,.bool false],.int .i64 2]) (by simp[results,Tryz.results27,go_sem,r0,r1,r2,r3,r4]) rfl
   ⟨_,by rw[HX1.out],by rw[HX1.out];exact pI.none _ _,Below.gy HB3.out (Nat.le_refl _)⟩
 |true=>
  generalize aZ p r=we at*
  go_wp2_with (first|(rw[←HW3.out])|fail)
  refine HWr.out.mono ?_;rintro e w4 ⟨rfl,hB4⟩;have hr4:=(hB4.block _ hlt3).trans HR3.out;have Fq:=(hB4.block _ Ud).trans HS3.out;have HB4:=hide (aj HB3.out hB4 HB3.out.size);clear q0 q1 q2 q3 q4 e0 e1 e2 e3 e4 f0 f1 f2 f3 f4;obtain⟨q0,q1,q2,q3,q4,_,_⟩:=dJ hr4;obtain⟨e0,e1,e2,e3,e4,⟨f0,f1,f2,f3,f4⟩,_⟩:=dJ Fq;have HS4:=hide Fq;have HK4:Hid (cu w4 (w.heap.size+1) (.slice ka r.known.length kc) r.known):=HK3.out.stay hB4.size fun k hk _=>hB4.block k hk;have HN4:Hid (cu w4 (w.heap.size+1) (.slice na r.fresh.length nc) r.fresh):=HN3.out.stay hB4.size fun k hk _=>hB4.block k hk;clear hr4 Fq hB4 HWr HW3 HR3 HS3 HK3 HN3 HB3
  by_cases h0:we=0
  ·subst h0;have HX1:Hid (mG p b=(0,r)):=by show _=_;rw[HX.out];simp
   clear HX;go_wp2;obtain⟨r0,r1,r2,r3,r4⟩:=yN HS4.out (.slice ka r.known.length kc) (.slice na r.fresh.length nc) (.int .i64 r.level) (.int .i64 r.rounds) (.bool r.done);exact bodyPost_ret (v:=.tuple #[.agg #[.slice ka r.known.length kc,.slice na r.fresh.length nc,.int .i64 r.level,.int .i64 r.rounds,.bool r.done],.int .i64 0]) (by simp[results,Tryz.results27,go_sem,r0,r1,r2,r3,r4]) rfl
    ⟨_,by rw[HX1.out],by rw[HX1.out];exact⟨_,_,rfl,HK4.out.gy (by omega),HN4.out.gy (by omega)⟩,Below.gy HB4.out (Nat.le_refl _)⟩
  ·have HX1:Hid (mG p b=(we,dZ)):=by show _=_;rw[HX.out];simp[h0]
   have hne:(we != 0)=true:=by simpa using h0
   clear HX h0;go_wp2;obtain⟨r0,r1,r2,r3,r4⟩:=yN HS4.out (.slice none 0 0) (.slice none 0 0) (.int .i64 0) (.int .i64 0) (.bool false);exact bodyPost_ret (v:=.tuple #[.agg #[.slice none 0 0,.slice none 0 0,.int .i64 0,.int .i64 0,.bool false],.int .i64 we]) (by simp[results,Tryz.results27,go_sem,r0,r1,r2,r3,r4]) rfl
    ⟨_,by rw[HX1.out],by rw[HX1.out];exact pI.none _ _,Below.gy HB4.out (Nat.le_refl _)⟩
end Go.Proofs.YtafmbokfkbccaaaGreatDoor
namespace Go.Proofs.YtafmbokfkbccaaaGreatDoor
open Go.RowKit Go.Sort Go.Maps
def jF (p:List aB) (r:gH) (n:Int):Int×gH:=if aZ p r≠0 then(aZ p r,dZ) else if(decide (0≤n)&&decide (n≤1000))=false then(3,dZ) else ig p (aG p).1 n.toNat r
theorem pI.slices {b:Nat} {w:World} {v:Value} {r:gH} (h:pI b w v r):∃ka kc na nc,v=.agg #[.slice ka r.known.length kc,.slice na r.fresh.length nc,.int .i64 r.level,.int .i64 r.rounds,.bool r.done]∧cu w b (.slice ka r.known.length kc) r.known∧cu w b (.slice na r.fresh.length nc) r.fresh:=by
 obtain⟨kv,nv,h1,h2,h3⟩:=h;obtain⟨ka,kc,rfl⟩:=h2.slice;obtain⟨na,nc,rfl⟩:=h3.slice;exact⟨ka,kc,na,nc,h1,h2,h3⟩
set_option maxRecDepth 100000 in
set_option maxHeartbeats 4000000 in
theorem Fu (p:List aB) (r:gH) (n:Int) (pv kv nv:Value) (w:World) (hv:dO.sl bY w pv p) (hk:Facts w kv r.known) (hn:Facts w nv r.fresh):
  Calls Tryz.prog 36 #[pv,.agg #[kv,nv,.int .i64 r.level,.int .i64 r.rounds,.bool r.done],.int .i64 n] w fun e w'=>∃v' er,e=.returned (.tuple #[v',.int .i64 er])∧vC (w.heap.size+2) w' v' er (jF p r n)∧Below w.heap.size w w':=by
 obtain⟨K,N,lev,rn,dn⟩:=r;dsimp only at*;obtain⟨pa,pc,rfl⟩:=Kind.slice hv;obtain⟨ka,kc,rfl⟩:=aA hk;obtain⟨na,nc,rfl⟩:=aA hn;obtain⟨w2,hw2⟩:∃w2,w2=(w.alloc (.cells #[.slice ka K.length kc,.slice na N.length nc,.int .i64 lev,.int .i64 rn,.bool dn] 47)).alloc (.cells #[.slice none 0 0,.slice none 0 0,.int .i64 0,.int .i64 0,.bool false] 47):=⟨_,rfl⟩;have hL2:Later w w2:=by rw[hw2];exact((Later.refl w).alloc _).alloc _
 have hz2:w2.heap.size=w.heap.size+2:=by rw[hw2];simp
 have hrb:w2.heap[w.heap.size]?=some (.cells #[.slice ka K.length kc,.slice na N.length nc,.int .i64 lev,.int .i64 rn,.bool dn] 47 (0,0)):=by
  rw[hw2,Below.heap_alloc _ _ _ (by simp)];exact heap_alloc_new w _
 have hrs:w2.heap[w.heap.size+1]?=some (.cells #[.slice none 0 0,.slice none 0 0,.int .i64 0,.int .i64 0,.bool false] 47 (0,0)):=by
  have:=heap_alloc_new (w.alloc (.cells #[.slice ka K.length kc,.slice na N.length nc,.int .i64 lev,.int .i64 rn,.bool dn] 47)) (.cells #[.slice none 0 0,.slice none 0 0,.int .i64 0,.int .i64 0,.bool false] 47);rw[hw2];simpa using this
 have HOf:=hide (Az p ⟨K,N,lev,rn,dn⟩ (.slice pa p.length pc) (.slice ka K.length kc) (.slice na N.length nc) w2 (Kind.aN hv hL2) (hk.later hL2) (hn.later hL2));have HV:=hide hv;have HK:=hide hk;have HN:=hide hn;have HL2:=hide hL2;have HRb:=hide hrb;have HRs:=hide hrs;have HW2:=hide hw2;have HX:Hid (jF p ⟨K,N,lev,rn,dn⟩ n=if aZ p ⟨K,N,lev,rn,dn⟩≠0 then(aZ p ⟨K,N,lev,rn,dn⟩,dZ) else if(decide (0≤n)&&decide (n≤1000))=false then(3,dZ) else ig p (aG p).1 n.toNat ⟨K,N,lev,rn,dn⟩):=(rfl:_=_);have HGo:Hid (aZ p ⟨K,N,lev,rn,dn⟩=0→dB p∧∃σ:aB→Nat,(aG p).1=p.map σ∧kN p (countP (p.map σ)) ⟨K,N,lev,rn,dn⟩∧∀s∈p.map σ,s<1000):=fun h=>by
  obtain⟨h1,h2⟩:=iO h;obtain⟨hp,_,τ,_,hs,ht⟩:=iN h1;have e:(aG p).1=p.map fun r=>τ r.head.name:=by rw[hs]
  refine⟨hp,_,e,e▸h2,fun s hs'=> ?_⟩;obtain⟨q,hq,rfl⟩:=List.mem_map.1 hs';have:=ht q hq;omega
 unfold OfT at HOf;generalize jF p ⟨K,N,lev,rn,dn⟩ n=SF at*;generalize aZ p ⟨K,N,lev,rn,dn⟩=R at*;generalize(aG p).1=ss at*;clear hv hk hn hL2 hrb hrs hw2
 go_enter Tryz.func36,Tryz.ntmps36
 go_wp2_with fail
 rw[←HW2.out];refine HOf.out.mono ?_;rintro e w3 ⟨v1,rfl,⟨⟨a1,n1,c1,rfl⟩,hs1⟩,hB3⟩;have HB3:Hid (Below w.heap.size w w3):=aj HL2.out.below hB3 HL2.out.size;have ML:Hid (w3.heap[w.heap.size]?=some (.cells #[.slice ka K.length kc,.slice na N.length nc,.int .i64 lev,.int .i64 rn,.bool dn] 47 (0,0))):=by show _=_;rw[hB3.block _ (by omega)];exact HRb.out
 have Jr:Hid (w3.heap[w.heap.size+1]?=some (.cells #[.slice none 0 0,.slice none 0 0,.int .i64 0,.int .i64 0,.bool false] 47 (0,0))):=by show _=_;rw[hB3.block _ (by omega)];exact HRs.out
 have HS1:Hid (R=0→ou.sl (From (w.heap.size+2)) w3 (.slice a1 n1 c1) ss):=fun h=>Kind.aI (hs1 h) fun k _ h=>Nat.le_trans (by omega) h;have hz3:w.heap.size+2≤w3.heap.size:=by have:=hB3.size;omega
 clear hB3 hs1 HOf HW2 HRb HRs HL2 hz2 w2;obtain⟨b0,b1,b2,b3,b4,_,_⟩:=dJ ML.out;obtain⟨q0,q1,q2,q3,q4,⟨f0,f1,f2,f3,f4⟩,_⟩:=dJ Jr.out
 by_cases h0:R=0
 ·subst h0;obtain⟨hp,σ,hss,hRN,hsm⟩:=HGo.out rfl;have HV1:=hide (HS1.out rfl);have hn1:n1=ss.length:=by obtain⟨_,_,e⟩:=Kind.slice HV1.out;simp only[Value.slice.injEq] at e;exact e.2.1
  subst hn1;have HW1:=hide (CB n 1000 w3);have HX1:Hid (SF=if(decide (0≤n)&&decide (n≤1000))=false then(3,dZ) else ig p ss n.toNat ⟨K,N,lev,rn,dn⟩):=by show _=_;rw[HX.out];simp
  have hA:(decide (0≤n)&&decide (n≤1000))=true→0≤n∧n≤1000:=fun h=>by simpa using h
  have HA:=hide hA;have HRP:=hide hp;have HRN:=hide hRN;have HSm:=hide hsm;have HSS:=hide hss;clear HX HGo HS1 hp hss hRN hsm hA;generalize(decide (0≤n)&&decide (n≤1000))=A at*;cases A with
  |false=>
   have HX2:Hid (SF=(3,dZ)):=by show _=_;rw[HX1.out];rfl
   go_wp2_with fail
   refine HW1.out.mono ?_;rintro e w4 ⟨rfl,h4⟩;obtain rfl:w3=w4:=h4.symm;clear h4;go_wp2;obtain⟨r0,r1,r2,r3,r4⟩:=yN Jr.out (.slice none 0 0) (.slice none 0 0) (.int .i64 0) (.int .i64 0) (.bool false);exact bodyPost_ret (v:=.tuple #[.agg #[.slice none 0 0,.slice none 0 0,.int .i64 0,.int .i64 0,.bool false],.int .i64 3]) (by simp[results,Tryz.results36,go_sem,r0,r1,r2,r3,r4]) rfl ⟨_,3,rfl,by rw[HX2.out];exact⟨rfl,pI.none _ _⟩,Below.gy HB3.out (Nat.le_succ _)⟩
  |true=>
   obtain⟨hn0,hn1⟩:=HA.out rfl;obtain⟨m,rfl⟩:∃m:Nat,n=(m:Int):=⟨n.toNat,by omega⟩;have HX2:Hid (SF=ig p ss m ⟨K,N,lev,rn,dn⟩):=by show _=_;rw[HX1.out];simp
   have HOw:=hide (Pn ⟨K,N,lev,rn,dn⟩ (.slice ka K.length kc) (.slice na N.length nc) w3 (HK.out.below HB3.out) (HN.out.below HB3.out));clear HX1 HA
   go_wp2_with fail
   refine HW1.out.mono ?_;rintro e w4 ⟨rfl,h4⟩;obtain rfl:w3=w4:=h4.symm;clear h4 HW1
   go_wp2_with fail
   refine HOw.out.mono ?_;rintro e w4 ⟨v4,rfl,hR4,hB4⟩;obtain⟨xa,xc,ya,yc,rfl,hO4,hN4⟩:=hR4.slices;dsimp only at hO4 hN4⊢;have HB4:Hid (Below w.heap.size w w4):=aj HB3.out hB4 HB3.out.size;have hr4:w4.heap[w.heap.size]?=some (.cells #[.slice ka K.length kc,.slice na N.length nc,.int .i64 lev,.int .i64 rn,.bool dn] 47 (0,0)):=by rw[hB4.block _ (by omega)];exact ML.out
   have hs4:w4.heap[w.heap.size+1]?=some (.cells #[.slice none 0 0,.slice none 0 0,.int .i64 0,.int .i64 0,.bool false] 47 (0,0)):=by rw[hB4.block _ (by omega)];exact Jr.out
   have hz4:w.heap.size+2≤w4.heap.size:=by have:=hB4.size;omega
   clear b0 b1 b2 b3 b4 q0 q1 q2 q3 q4 f0 f1 f2 f3 f4;have HO5:Hid (cu (gy w4 w.heap.size (.slice xa K.length xc) (.slice ya N.length yc) (.int .i64 lev) (.int .i64 rn) (.bool dn)) (w.heap.size+2) (.slice xa K.length xc) K):=(hO4.base (by omega)).gy (by omega);have HN5:Hid (cu (gy w4 w.heap.size (.slice xa K.length xc) (.slice ya N.length yc) (.int .i64 lev) (.int .i64 rn) (.bool dn)) (w.heap.size+2) (.slice ya N.length yc) N):=(hN4.base (by omega)).gy (by omega);have QC:=hide (pJ hr4 (.slice xa K.length xc) (.slice ya N.length yc) (.int .i64 lev) (.int .i64 rn) (.bool dn));have Pp:Hid ((gy w4 w.heap.size (.slice xa K.length xc) (.slice ya N.length yc) (.int .i64 lev) (.int .i64 rn) (.bool dn)).heap[w.heap.size+1]?=some (.cells #[.slice none 0 0,.slice none 0 0,.int .i64 0,.int .i64 0,.bool false] 47 (0,0))):=by show _=_;rw[(lI w4 w.heap.size _ _ _ _ _).block _ (by omega) (by omega)];exact hs4
   have HB5:Hid (Below w.heap.size w (gy w4 w.heap.size (.slice xa K.length xc) (.slice ya N.length yc) (.int .i64 lev) (.int .i64 rn) (.bool dn))):=Below.gy HB4.out (Nat.le_refl _);have HV5:Hid (ou.sl (From (w.heap.size+2)) (gy w4 w.heap.size (.slice xa K.length xc) (.slice ya N.length yc) (.int .i64 lev) (.int .i64 rn) (.bool dn)) (.slice a1 ss.length c1) ss):=Kind.aM (Kind.pO HV1.out hB4) (lI _ _ _ _ _ _ _).size fun k hk hb=>(lI w4 w.heap.size _ _ _ _ _).block k hk (by have:w.heap.size+2≤k:=hb;omega);obtain⟨b0,b1,b2,b3,b4,⟨g0,g1,g2,g3,g4⟩,_⟩:=dJ hr4;clear hr4 hs4 hO4 hN4 hR4 hB4 HOw ML Jr;go_wp2
   go_loopg [2,9] m (fun g nn ee wr=>∃k:Nat,k=g∧nn=.int .i64 k∧ee=.int .i64 0∧k≤1000∧∃(X:gH) (xa ya:Option Addr) (xc yc:Nat),Hid (kN p (countP (p.map σ)) X)∧Hid (wr.heap[w.heap.size]?=some (.cells #[.slice xa X.known.length xc,.slice ya X.fresh.length yc,.int .i64 X.level,.int .i64 X.rounds,.bool X.done] 47 (0,0)))∧
    Hid (cu wr (w.heap.size+2) (.slice xa X.known.length xc) X.known)∧Hid (cu wr (w.heap.size+2) (.slice ya X.fresh.length yc) X.fresh)∧Hid (wr.heap[w.heap.size+1]?=some (.cells #[.slice none 0 0,.slice none 0 0,.int .i64 0,.int .i64 0,.bool false] 47 (0,0)))∧Hid (Below w.heap.size w wr)∧w.heap.size+2≤wr.heap.size∧Hid (ou.sl (From (w.heap.size+2)) wr (.slice a1 ss.length c1) ss)∧Hid (SF=ig p ss k X))
   case atStart=>exact⟨m,rfl,rfl,rfl,by omega,⟨K,N,lev,rn,dn⟩,xa,ya,xc,yc,HRN,QC,HO5,HN5,Pp,HB5,by simp only[size_setCell];exact hz4,HV5,HX2⟩
   case round=>
    clear HRN QC HO5 HN5 Pp HB5 HX2 HV5 HV1 b0 b1 b2 b3 b4 g0 g1 g2 g3 g4 HB4 hz4 HB3 hz3 HK HN;obtain⟨k,hkg,rfl,rfl,hk1,X,xa,ya,xc,yc,HRN,HRb,HO,HN',HRs,HB,hz,HVr,HX⟩:=hrel
    by_cases hk0:k=0
    ·have hkz:¬((0:Int)<(k:Int)):=by omega
     have HT:Hid (SF=(0,X)):=by show _=_;rw[HX.out,hk0];rfl
     clear hk0;obtain⟨b0,b1,b2,b3,b4,_,_⟩:=dJ HRb.out;obtain⟨q0,q1,q2,q3,q4,⟨f0,f1,f2,f3,f4⟩,_⟩:=dJ HRs.out;go_wp2;obtain⟨r0,r1,r2,r3,r4⟩:=yN HRs.out (.slice xa X.known.length xc) (.slice ya X.fresh.length yc) (.int .i64 X.level) (.int .i64 X.rounds) (.bool X.done);exact bodyPost_ret (v:=.tuple #[.agg #[.slice xa X.known.length xc,.slice ya X.fresh.length yc,.int .i64 X.level,.int .i64 X.rounds,.bool X.done],.int .i64 0]) (by simp[results,Tryz.results36,go_sem,r0,r1,r2,r3,r4]) rfl
      ⟨_,0,rfl,by rw[HT.out];exact⟨rfl,_,_,rfl,HO.out.gy (by omega),HN'.out.gy (by omega)⟩,Below.gy HB.out (Nat.le_succ _)⟩
    ·obtain⟨k,rfl⟩:∃k',k=k'+1:=⟨k-1,by omega⟩;cases hdn:X.done with
     |true=>
      have HT:Hid (SF=(0,X)):=by show _=_;rw[HX.out];exact EA hdn _
      obtain⟨b0,b1,b2,b3,b4,_,_⟩:=dJ HRb.out;obtain⟨q0,q1,q2,q3,q4,⟨f0,f1,f2,f3,f4⟩,_⟩:=dJ HRs.out;rw[hdn] at b4;have HDn:=hide hdn;clear hdn;go_wp2;obtain⟨r0,r1,r2,r3,r4⟩:=yN HRs.out (.slice xa X.known.length xc) (.slice ya X.fresh.length yc) (.int .i64 X.level) (.int .i64 X.rounds) (.bool true);exact bodyPost_ret (v:=.tuple #[.agg #[.slice xa X.known.length xc,.slice ya X.fresh.length yc,.int .i64 X.level,.int .i64 X.rounds,.bool true],.int .i64 0]) (by simp[results,Tryz.results36,go_sem,r0,r1,r2,r3,r4]) rfl
       ⟨_,0,rfl,by rw[HT.out];exact⟨rfl,_,_,by rw[HDn.out],HO.out.gy (by omega),HN'.out.gy (by omega)⟩,Below.gy HB.out (Nat.le_succ _)⟩
     |false=>
      have hX1:=HX.out;rw[EB hdn] at hX1;have HX1:=hide hX1;have hNx:=RA p HRP.out σ X HRN.out hdn HSm.out (.slice pa p.length pc) (.slice a1 ss.length c1) (.slice xa X.known.length xc) (.slice ya X.fresh.length yc) wr (Kind.aX HV.out HB.out) (by rw[←HSS.out];exact Kind.bW HVr.out) (HO.out.facts (by have:=HRN.out.good.few;omega)) (HN'.out.facts (by have:=Nat.le_trans (sJ HRN.out.up HRN.out.sub) HRN.out.good.few;omega));rw[←HSS.out] at hNx;obtain⟨er,Y,hY⟩:∃er Y,jJ p ss X=(er,Y):=⟨_,_,rfl⟩;have HRY:Hid (er=0→kN p (countP (p.map σ)) Y):=fun h=>(vU HRP.out σ HRN.out hdn (by rw[←HSS.out,hY,h])).1;rw[hY,hdn] at hNx;rw[hY] at HX1;have HNx:=hide hNx;have QD:=HRb;rw[hdn] at QD;obtain⟨b0,b1,b2,b3,b4,_,_⟩:=dJ QD.out;have hkp:(0:Int)<((k+1:Nat):Int):=by omega
      clear hNx hY hX1 hdn HX
      go_wp2_with fail
      refine HNx.out.mono ?_;rintro e w5 ⟨v5,er',rfl,⟨her,hR5⟩,hB5⟩;dsimp only at her hR5;obtain rfl:er=er':=her.symm;clear her;obtain⟨za,zc,ua,uc,rfl,hO5,hN5⟩:=hR5.slices;have hr5:w5.heap[w.heap.size]?=some (.cells #[.slice xa X.known.length xc,.slice ya X.fresh.length yc,.int .i64 X.level,.int .i64 X.rounds,.bool false] 47 (0,0)):=by rw[hB5.block _ (by omega)];exact QD.out
      have hs5:w5.heap[w.heap.size+1]?=some (.cells #[.slice none 0 0,.slice none 0 0,.int .i64 0,.int .i64 0,.bool false] 47 (0,0)):=by rw[hB5.block _ (by omega)];exact HRs.out
      have hz5:w.heap.size+2≤w5.heap.size:=by have:=hB5.size;omega
      have QC:=hide (pJ hr5 (.slice za Y.known.length zc) (.slice ua Y.fresh.length uc) (.int .i64 Y.level) (.int .i64 Y.rounds) (.bool Y.done));have Pp:Hid ((gy w5 w.heap.size (.slice za Y.known.length zc) (.slice ua Y.fresh.length uc) (.int .i64 Y.level) (.int .i64 Y.rounds) (.bool Y.done)).heap[w.heap.size+1]?=some (.cells #[.slice none 0 0,.slice none 0 0,.int .i64 0,.int .i64 0,.bool false] 47 (0,0))):=by show _=_;rw[(lI w5 w.heap.size _ _ _ _ _).block _ (by omega) (by omega)];exact hs5
      have HB5:Hid (Below w.heap.size w (gy w5 w.heap.size (.slice za Y.known.length zc) (.slice ua Y.fresh.length uc) (.int .i64 Y.level) (.int .i64 Y.rounds) (.bool Y.done))):=Below.gy (aj HB.out hB5 HB.out.size) (Nat.le_refl _);have HO5:Hid (cu (gy w5 w.heap.size (.slice za Y.known.length zc) (.slice ua Y.fresh.length uc) (.int .i64 Y.level) (.int .i64 Y.rounds) (.bool Y.done)) (w.heap.size+2) (.slice za Y.known.length zc) Y.known):=(hO5.base (by omega)).gy (by omega);have HN5:Hid (cu (gy w5 w.heap.size (.slice za Y.known.length zc) (.slice ua Y.fresh.length uc) (.int .i64 Y.level) (.int .i64 Y.rounds) (.bool Y.done)) (w.heap.size+2) (.slice ua Y.fresh.length uc) Y.fresh):=(hN5.base (by omega)).gy (by omega);have HV5:Hid (ou.sl (From (w.heap.size+2)) (gy w5 w.heap.size (.slice za Y.known.length zc) (.slice ua Y.fresh.length uc) (.int .i64 Y.level) (.int .i64 Y.rounds) (.bool Y.done)) (.slice a1 ss.length c1) ss):=Kind.aM (Kind.pO HVr.out hB5) (lI _ _ _ _ _ _ _).size fun k hk hb=>(lI w5 w.heap.size _ _ _ _ _).block k hk (by have:w.heap.size+2≤k:=hb;omega);clear b0 b1 b2 b3 b4;obtain⟨b0,b1,b2,b3,b4,⟨g0,g1,g2,g3,g4⟩,_⟩:=dJ hr5;obtain⟨q0,q1,q2,q3,q4,⟨f0,f1,f2,f3,f4⟩,_⟩:=dJ hs5;clear hR5 hB5 hO5 hN5 hr5 hs5 HNx HRb QD HO HN' HRs HB hz HVr HRN
      by_cases he:er=0
      ·subst he;have HX5:Hid (SF=ig p ss k Y):=by show _=_;rw[HX1.out];simp
       have VZ:=hide (HRY.out rfl);clear HX1 HRY;go_wp2
       go_roundg k
       case measure=>omega
       case rel=>exact⟨k,rfl,by go_num,rfl,by omega,Y,za,ua,zc,uc,VZ,QC,HO5,HN5,Pp,HB5,by simp only[size_setCell];exact hz5,HV5,HX5⟩
      ·have HX5:Hid (SF=(er,dZ)):=by show _=_;rw[HX1.out,if_pos he]
       have hne:(er != 0)=true:=by simpa using he
       clear HX1 HRY he;go_wp2;obtain⟨r0,r1,r2,r3,r4⟩:=yN Pp.out (.slice none 0 0) (.slice none 0 0) (.int .i64 0) (.int .i64 0) (.bool false);unfold gy at r0 r1 r2 r3 r4;exact bodyPost_ret (v:=.tuple #[.agg #[.slice none 0 0,.slice none 0 0,.int .i64 0,.int .i64 0,.bool false],.int .i64 er]) (by simp[results,Tryz.results36,go_sem,r0,r1,r2,r3,r4]) rfl ⟨_,er,rfl,by rw[HX5.out];exact⟨rfl,pI.none _ _⟩,Below.gy HB5.out (Nat.le_succ _)⟩
 ·have HX1:Hid (SF=(R,dZ)):=by show _=_;rw[HX.out,if_pos h0]
  have hne:(R != 0)=true:=by simpa using h0
  clear HX HGo HS1 h0;go_wp2;obtain⟨r0,r1,r2,r3,r4⟩:=yN Jr.out (.slice none 0 0) (.slice none 0 0) (.int .i64 0) (.int .i64 0) (.bool false);exact bodyPost_ret (v:=.tuple #[.agg #[.slice none 0 0,.slice none 0 0,.int .i64 0,.int .i64 0,.bool false],.int .i64 R]) (by simp[results,Tryz.results36,go_sem,r0,r1,r2,r3,r4]) rfl ⟨_,R,rfl,by rw[HX1.out];exact⟨rfl,pI.none _ _⟩,Below.gy HB3.out (Nat.le_succ _)⟩
end Go.Proofs.YtafmbokfkbccaaaGreatDoor
