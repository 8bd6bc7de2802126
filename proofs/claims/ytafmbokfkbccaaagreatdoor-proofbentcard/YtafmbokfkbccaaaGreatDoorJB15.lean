import Derived.Test.YtafmbokfkbccaaaGreatDoorJB14
import Derived.Test.YtafmbokfkbccaaaGreatDoorJB6
import Derived.Test.YtafmbokfkbccaaaGreatDoorJB7
import Derived.Test.YtafmbokfkbccaaaGreatDoorJB4
namespace Go.Proofs.YtafmbokfkbccaaaGreatDoor
open Go.RowKit Go.Sort
theorem wu {a:aF} {f:aj} {l m:List aC} (h:dL a f l=some m):m.length≤l.length+a.terms.length:=by
 have hk:bD l=((bD l).map raw).map bs:=by
  rw[List.map_map]
  conv=>lhs;rw[←List.map_id (bD l)]
  exact List.map_congr_left fun x _=>(jo x).symm
 have h1:=congrArg List.length (kW hk h).2.1;have h2:=nU a.terms ((bD l).map raw);have e:∀q:List aC,(bD q).length=q.length:=fun q=>by unfold bD;rw[List.length_map]
 rw[e,List.length_map] at h1;rw[List.length_map,e] at h2;omega
theorem Lc {α:Type} {K:Kind α} {B:Nat→Prop} {w:World} {b off n cap:Nat} {x:α} {l:List α} (h:K.sl B w (.slice (some ⟨b,off,none⟩) n cap) (x::l)):K.sl B w (.slice (if cap=1 then some ⟨b,off,none⟩ else some ⟨b,off+K.size,none⟩) l.length (cap-1)) l:=by
 obtain⟨h0,a',cap',e,h1⟩:=h;simp only[Value.slice.injEq] at e;obtain⟨rfl,rfl,rfl⟩:=e;obtain⟨b',off',e,hB,hb,hcl⟩:=h1 (by simp);simp only[Option.some.injEq,Addr.mk.injEq] at e;obtain⟨rfl,rfl,_⟩:=e;have h01:=h0.1;have h02:(x::l).length≤cap:=h0.2;simp only[List.length_cons] at h01 h02;cases l with
 |nil=>exact K.gF _ _ _ _
 |cons y l=>
  simp only[List.length_cons] at h01 h02;rw[if_neg (by omega)];refine⟨⟨by simp only[List.length_cons];omega,by show(y::l).length≤cap-1;simp only[List.length_cons];omega⟩,_,cap-1,rfl,fun _=>⟨b,_,rfl,hB,hb,fun i z hi=> ?_⟩⟩;obtain⟨d,d1,d2⟩:=hcl (i+1) z (by simpa using hi);refine⟨d,d1,fun j u hu=> ?_⟩;have:=d2 j u hu;rw[show off+(i+1)*K.size+j=off+K.size+i*K.size+j by rw[Nat.add_mul];omega] at this;exact this
theorem F9 {a:aF} {as':List aF} {ks:List aj} {b:List aC} (h:a.no=true):dW (a::as') ks b=dW as' ks b:=by
 conv=>lhs;unfold dW
 rw[if_pos h]
theorem Dw {a:aF} {as':List aF} {b:List aC} (h:a.no=false):dW (a::as') [] b=(5,[]):=by
 unfold dW;rw[if_neg (by simp[h])]
theorem Dx {a:aF} {as':List aF} {k:aj} {ks:List aj} {b:List aC} (h:a.no=false) (hm:dL a k b=none):dW (a::as') (k::ks) b=(8,[]):=by
 unfold dW;rw[if_neg (by simp[h])];dsimp only;rw[hm]
theorem Dy {a:aF} {as':List aF} {k:aj} {ks:List aj} {b b':List aC} (h:a.no=false) (hm:dL a k b=some b'):dW (a::as') (k::ks) b=dW as' ks b':=by
 conv=>lhs;unfold dW
 rw[if_neg (by simp[h])];dsimp only;rw[hm]
set_option maxRecDepth 100000 in
set_option maxHeartbeats 8000000 in
theorem Dz (all:List aj) (r:aA) (x:bf) (n:Nat) (pv tv av hv bv xv:Value) (w:World) (hp:∃a n c,pv=.slice a n c) (ht:∃a n c,tv=.slice a n c) (ha:Facts w av all) (hr:fI all) (hh:dn.sl bJ w hv r.head.terms) (hb:bN.sl bJ w bv r.body) (hx:sI n bJ w xv x)
  (h4:r.head.terms.length≤4) (h5:r.body.length≤5) (hbt:∀a∈r.body,a.terms.length≤4):
  Calls Tryz.prog 99 #[.agg #[pv,tv,av],.agg #[.bool r.head.no,.string (bs r.head.name),hv,bv],xv] w fun e w'=>e=.returned (.int .i64 (jO all r x.fact (x.kids.map bf.fact)))∧Later w w':=by
 obtain⟨s,kv,rfl,hs,hkv⟩:=hx;obtain⟨pa,pn,pc,rfl⟩:=hp;obtain⟨ta,tn,tc,rfl⟩:=ht;obtain⟨aa,ac,rfl⟩:=aD ha;obtain⟨sa,sc,rfl⟩:=Kind.slice hs;obtain⟨ka,kc,rfl⟩:=Kind.slice hkv;obtain⟨ha',hc',rfl⟩:=Kind.slice hh;obtain⟨ba,bc,rfl⟩:=Kind.slice hb;obtain⟨A,hA⟩:∃A,A=w.heap.size:=⟨_,rfl⟩;obtain⟨w1,hw1⟩:∃w1,w1=((w.alloc (.cells #[.slice pa pn pc,.slice ta tn tc,.slice aa all.length ac] 109)).alloc (.cells #[.bool r.head.no,.string (bs r.head.name),.slice ha' r.head.terms.length hc',.slice ba r.body.length bc] 87)).alloc (.cells #[.string x.fact.1,.slice sa x.fact.2.length sc,.int .i64 x.rule,.slice ka x.kids.length kc] 30):=⟨_,rfl⟩;have hL1:Later w w1:=by rw[hw1];exact(((Later.refl w).alloc _).alloc _).alloc _
 have hs1:w1.heap.size=w.heap.size+3:=by rw[hw1];simp
 have hr0:w1.heap[w.heap.size]?=some (.cells #[.slice pa pn pc,.slice ta tn tc,.slice aa all.length ac] 109 (0,0)):=by
  rw[hw1];simp only[bO,World.size_alloc]
  repeat (first|rw[if_pos trivial]|rw[if_pos (by omega)]|rw[if_neg (by omega)])
 have hr1:w1.heap[w.heap.size+1]?=some (.cells #[.bool r.head.no,.string (bs r.head.name),.slice ha' r.head.terms.length hc',.slice ba r.body.length bc] 87 (0,0)):=by
  rw[hw1];simp only[bO,World.size_alloc]
  repeat (first|rw[if_pos trivial]|rw[if_pos (by omega)]|rw[if_neg (by omega)])
 have hr2:w1.heap[w.heap.size+2]?=some (.cells #[.string x.fact.1,.slice sa x.fact.2.length sc,.int .i64 x.rule,.slice ka x.kids.length kc] 30 (0,0)):=by
  rw[hw1];simp only[bO,World.size_alloc]
  repeat (first|rw[if_pos trivial]|rw[if_pos (by omega)]|rw[if_neg (by omega)])
 have HMe:=hide (Ig r.head (.slice ha' r.head.terms.length hc') (.agg #[.string x.fact.1,.slice sa x.fact.2.length sc]) (.slice none 0 0) x.fact [] w1 (Kind.aI hh hL1) ⟨_,rfl,(kJ hs).later hL1⟩ (Kind.gF _ _ _ _ _) (by simp;omega));have HBd:=hide (Kind.aI hb hL1);have HKv:=hide (Kind.aI hkv hL1);have HAl:=hide (ha.later hL1);have HRi:=hide hr;have HBT:=hide hbt;have HL1:=hide hL1;have HR0:=hide hr0;have HR1:=hide hr1;have HR2:=hide hr2;have Om:Hid (∀(b:List aC) (lv:Value) (w':World),Later w1 w'→bA.sl bJ w' lv b→Calls Tryz.prog 176 #[.agg #[.slice pa pn pc,.slice ta tn tc,.slice aa all.length ac],.slice ba r.body.length bc,lv] w' fun e w''=>e=.returned (.int .i64 (G6 all r.body b))∧Later w' w''):=fun b lv w' h hl=>
  KF all r.body b _ _ _ _ lv w' ⟨_,_,_,rfl⟩ ⟨_,_,_,rfl⟩ ((ha.later hL1).later h) hr (Kind.aI (Kind.aI hb hL1) h) hl
 obtain⟨RR,hRR⟩:∃RR:Int,RR=jO all r x.fact (x.kids.map bf.fact):=⟨_,rfl⟩;rw[←hRR];unfold jO at hRR;have HW1:=hide hw1;have a0:w1.cell? ⟨w.heap.size+1,0,none⟩=some (.bool r.head.no):=by rw[cell_of_row _ _ _ _ _ _ hr1];rfl
 have a1:w1.cell? ⟨w.heap.size+1,0+1,none⟩=some (.string (bs r.head.name)):=by rw[cell_of_row _ _ _ _ _ _ hr1];rfl
 have a2:w1.cell? ⟨w.heap.size+1,0+2,none⟩=some (.slice ha' r.head.terms.length hc'):=by rw[cell_of_row _ _ _ _ _ _ hr1];rfl
 have f0:w1.cell? ⟨w.heap.size+1+1,0,none⟩=some (.string x.fact.1):=by rw[show w.heap.size+1+1=w.heap.size+2 from rfl,cell_of_row _ _ _ _ _ _ hr2];rfl
 have f1:w1.cell? ⟨w.heap.size+1+1,0+1,none⟩=some (.slice sa x.fact.2.length sc):=by rw[show w.heap.size+1+1=w.heap.size+2 from rfl,cell_of_row _ _ _ _ _ _ hr2];rfl
 clear ha hr hh hb hs hkv hL1 hr0 hr1 hr2 hw1 hbt hA A;cases hm:dL r.head x.fact [] with
 |none=>
  rw[hm] at HMe hRR;dsimp only at hRR;simp only[Option.isSome_none] at HMe;have HRR:=hide hRR;clear hm hRR Om;obtain⟨⟨fn,aH⟩,rl,kids⟩:=x;dsimp only[bf.fact,bf.rule,bf.kids] at*;generalize bs r.head.name=nm at*;generalize r.head.no=no at*
  go_enter Tryz.func99,Tryz.ntmps99
  go_wp2_with (first|(rw[←HW1.out])|fail)
  refine HMe.out.mono ?_;rintro e w2 ⟨v2,rfl,hv2,hL2⟩;obtain rfl:v2=.slice none 0 0:=hv2;have HL2:=hide (HL1.out.trans hL2);clear hL2 HMe;go_wp2;go_ret;exact⟨by rw[HRR.out];rfl,HL2.out⟩
 |some b0=>
  rw[hm] at HMe hRR;dsimp only at hRR;simp only[Option.isSome_some] at HMe;have hb0:=wu hm;simp only[List.length_nil] at hb0;obtain⟨KG,hKG⟩:∃KG,KG=dW r.body (x.kids.map bf.fact) b0:=⟨_,rfl⟩;rw[←hKG] at hRR;have HKG:=hide hKG;have HRR:=hide hRR;clear hm hRR hKG;obtain⟨⟨fn,aH⟩,rl,kids⟩:=x;dsimp only[bf.fact,bf.rule,bf.kids] at*;obtain⟨hd,body⟩:=r;dsimp only at*;generalize bs hd.name=nm at*;generalize hd.no=no at*
  go_enter Tryz.func99,Tryz.ntmps99
  go_wp2_with (first|(rw[←HW1.out])|fail)
  refine HMe.out.mono ?_;rintro e w2 ⟨v2,rfl,hv2,hL2⟩;have Nt:bA.own 190 w1.heap.size w2 v2 b0:=hv2;have hb2:bA.sl bJ w2 v2 b0:=Kind.dN (Kind.gW Nt (by omega));obtain⟨va,vn,vc,rfl⟩:∃a n c,v2=.slice a n c:=by obtain⟨a,c,e⟩:=Kind.slice hb2;exact⟨a,_,c,e⟩
  have HB2:=hide hb2;have HL2:=hide hL2;have hr2:=(hL2.block (by omega)).trans HR2.out;have hr1:=(hL2.block (by omega)).trans HR1.out;have k3:w2.cell? ⟨w.heap.size+1+1,3,none⟩=some (.slice ka kids.length kc):=by rw[show w.heap.size+1+1=w.heap.size+2 from rfl,cell_of_row _ _ _ _ _ _ hr2];rfl
  have k4:w2.cell? ⟨w.heap.size+1,3,none⟩=some (.slice ba body.length bc):=by rw[cell_of_row _ _ _ _ _ _ hr1];rfl
  have HK2:=hide (Kind.aI HKv.out hL2);have hbl:=HBd.out.1.1;clear hv2 Nt hb2 hL2 hr2 hr1 HMe a0 a1 a2 f0 f1 HW1;go_wp2;clear k3 k4
  go_loopg [7,9,27] body.length (fun g lv kv i wr=>∃(j:Nat) (b:List aC) (ks:List bf),j+g=body.length∧i=.int .i64 j∧Hid (bA.sl bJ wr lv b)∧b.length≤4+4*j∧Hid ((o7 n).sl bJ wr kv ks)∧Hid (KG=dW (body.drop j) (ks.map bf.fact) b)∧Hid (Later w1 wr))
  case atStart=>exact⟨0,b0,kids,by omega,rfl,HB2,by omega,HK2,(by rw[List.drop_zero];exact HKG.out:_=_),HL2⟩
  case round=>
   clear HB2 HK2 HL2;obtain⟨j,b,ks,hj,rfl,HB,hbn,HK,HG,HL⟩:=hrel;obtain⟨la,lc,hlv⟩:=Kind.slice HB.out;obtain⟨qa,qc,hkv⟩:=Kind.slice HK.out;subst hlv;subst hkv
   by_cases hlt:j<body.length
   ·obtain⟨a,ha⟩:∃a,body[j]?=some a:=⟨_,List.getElem?_eq_getElem hlt⟩;obtain⟨b1,o1,_,e1,hb1,⟨xv,hce,htv⟩,hc⟩:=Kind.fP HBd.out ha;subst e1;subst hce;have d0:wr.cell? ⟨b1,o1+j*3,none⟩=some (.bool a.no):=by rw[HL.out.cell (p:=⟨b1,o1+j*3,none⟩) hb1];simpa[bN] using hc 0 _ rfl
    have d1:wr.cell? ⟨b1,o1+j*3+1,none⟩=some (.string (bs a.name)):=by rw[HL.out.cell (p:=⟨b1,o1+j*3+1,none⟩) hb1];simpa[bN] using hc 1 _ rfl
    have d2:wr.cell? ⟨b1,o1+j*3+2,none⟩=some xv:=by rw[HL.out.cell (p:=⟨b1,o1+j*3+2,none⟩) hb1];simpa[bN] using hc 2 _ rfl
    obtain⟨xa,xc,rfl⟩:=Kind.slice htv;have hdr:body.drop j=a::body.drop (j+1):=by
     obtain⟨hi,e⟩:=List.getElem?_eq_some_iff.1 ha;rw[List.drop_eq_getElem_cons hi,e]
    have hat:=HBT.out a (List.mem_of_getElem? ha);have hg:=HG.out;rw[hdr] at hg;obtain⟨wa,hwa⟩:∃wa,wa=wr.alloc (.cells #[.bool a.no,.string (bs a.name),.slice xa a.terms.length xc] 85):=⟨_,rfl⟩;have hLa:Later wr wa:=by rw[hwa];exact(Later.refl wr).alloc _
    have hRa:wa.heap[wr.heap.size]?=some (.cells #[.bool a.no,.string (bs a.name),.slice xa a.terms.length xc] 85 (0,0)):=by rw[hwa];exact heap_alloc_new wr _
    obtain⟨c0,c1,c2,hla⟩:=EX hRa;have hLA:=HL.out.trans hLa;have HTa:=hide (Kind.aI htv hLA);have HLa:=hide hLA;have HWa:=hide hwa;have HRa:=hide hRa;have HBa:=hide (Kind.aI HB.out hLa);have HKa:=hide (Kind.aI HK.out hLa);clear hc ha htv hwa hLa hRa hLA HB HK HL HG hdr;cases hno:a.no with
    |true=>
     rw[F9 hno] at hg;rw[hno] at d0 HWa c0;have HG2:=hide hg;clear hno hg;generalize bs a.name=nm2 at*
     go_wp2_with (rw[←HWa.out])
     go_roundg (body.length- (j+1))
     case measure=>omega
     case rel=>exact⟨j+1,b,ks,by omega,by go_num,HBa,by omega,HKa,HG2,HLa⟩
    |false=>
     rw[hno] at d0 HWa c0 HRa;cases ks with
     |nil=>
      rw[List.map_nil,Dw hno] at hg;have HE:Hid (RR=5):=by show _=_;rw[HRR.out,hg];rfl
      clear hno hg;generalize bs a.name=nm2 at*
      go_wp2_with (rw[←HWa.out])
      go_ret;exact⟨by rw[HE.out];rfl,HL1.out.trans HLa.out⟩
     |cons k ks=>
      rw[List.map_cons] at hg;cases n with
      |zero=>
       obtain⟨c,hc⟩:=xO HKa.out (x:=k) (by simp);exact hc.elim
      |succ m=>
      obtain⟨b2,o2,s2,kv2,e2,hb2,_,q0,q1,_,_,hs2,_⟩:=yx HKa.out (i:=0) (x:=k) rfl;simp only[Value.slice.injEq] at e2;obtain⟨rfl,_,_⟩:=e2;simp only[Nat.zero_mul,Nat.add_zero] at q0 q1;obtain⟨sa2,sc2,rfl⟩:=Kind.slice hs2;have HTl:=hide (Lc HKa.out);have hqc:(k::ks).length≤qc:=HKa.out.1.2;simp only[List.length_cons] at hqc;have HMe:Hid (∀w',Later wa w'→Calls Tryz.prog 175 #[.agg #[.bool false,.string (bs a.name),.slice xa a.terms.length xc],.agg #[.string k.fact.1,.slice sa2 k.fact.2.length sc2],.slice la b.length lc] w' fun e w''=>∃v,e=.returned (.tuple #[v,.bool (dL a k.fact b).isSome])∧Oc w' w'' v (dL a k.fact b)∧Hid (Later w' w'')):=fun w' h=>by
       have:=Ig a (.slice xa a.terms.length xc) (.agg #[.string k.fact.1,.slice sa2 k.fact.2.length sc2]) (.slice la b.length lc) k.fact b w' (Kind.aI HTa.out h) ⟨_,rfl,(kJ hs2).later h⟩ (Kind.aI HBa.out h) (by omega);rw[hno] at this;exact this
      have HSc:Hid (∀w',Later wa w'→(w'.cell? ⟨wr.heap.size,0,none⟩=some (.bool false)∧w'.cell? ⟨wr.heap.size,0+1,none⟩=some (.string (bs a.name))∧w'.cell? ⟨wr.heap.size,0+2,none⟩=some (.slice xa a.terms.length xc))∧w'.cell? ⟨b2,o2,none⟩=some (.string k.fact.1)∧w'.cell? ⟨b2,o2+1,none⟩=some (.slice sa2 k.fact.2.length sc2)):=fun w' h=>by
       have hra:=(h.block hla).trans HRa.out;refine⟨⟨?_,?_,?_⟩,?_,?_⟩
       ·rw[cell_of_row _ _ _ _ _ _ hra];rfl
       ·rw[cell_of_row _ _ _ _ _ _ hra];rfl
       ·rw[cell_of_row _ _ _ _ _ _ hra];rfl
       ·rw[h.cell (p:=⟨b2,o2,none⟩) hb2];exact q0
       ·rw[h.cell (p:=⟨b2,o2+1,none⟩) hb2];exact q1
      obtain⟨o,ho⟩:∃o,o=dL a k.fact b:=⟨_,rfl⟩;rw[←ho] at HMe;have HO:=hide ho;have HNo:=hide hno;have HGk:=hide hg;obtain⟨⟨kn,PK⟩,krl,kk⟩:=k;dsimp only[bf.fact,bf.rule,bf.kids] at*;clear hno hg ho hs2 q0 q1 HKa;generalize bs a.name=nm2 at*;have hlp:(0:Int)<((ks.length+1:Nat):Int):=by omega
      have hl1:(1:Int)≤((ks.length+1:Nat):Int):=by omega
      have hle:(((ks.length+1:Nat):Int)==0)=false:=by simp;omega
      go_wp2_with (rw[←HWa.out])
      refine wp_region_held_drew (S:=fun w'=>Later wa w') (by kernel_rfl) (Later.refl wa).drew (fun hHeld=> ?_);refine au (i:=0) (d:=some 37) (v:= ?_) rfl rfl hHeld ?_ ?_;rotate_left;focus intro w hSw;(try dsimp only at hSw);obtain⟨⟨p0,p1,p2⟩,p3,p4⟩:=HSc.out _ hSw;go_simp;try with_reducible rfl
      simp only[bP,bQ,aze,asu];refine au (i:=1) (d:=some 38) (v:= ?_) rfl rfl hHeld ?_ ?_;rotate_left;focus intro w hSw;(try dsimp only at hSw);go_simp;try with_reducible rfl
      simp only[bP,bQ,aze,asu];refine au (i:=2) (d:=some 39) (v:= ?_) rfl rfl hHeld ?_ ?_;rotate_left;focus intro w hSw;(try dsimp only at hSw);go_simp;try with_reducible rfl
      simp only[bP,bQ,aze,asu];refine au (i:=3) (d:=some 40) (v:= ?_) rfl rfl hHeld ?_ ?_;rotate_left;focus intro w hSw;(try dsimp only at hSw);go_simp;try with_reducible rfl
      simp only[bP,bQ,aze,asu];refine au (i:=4) (d:=some 41) (v:= ?_) rfl rfl hHeld ?_ ?_;rotate_left;focus intro w hSw;(try dsimp only at hSw);obtain⟨⟨p0,p1,p2⟩,p3,p4⟩:=HSc.out _ hSw;go_simp;try with_reducible rfl
      simp only[bP,bQ,aze,asu];refine au (i:=5) (d:=some 42) (v:= ?_) rfl rfl hHeld ?_ ?_;rotate_left;focus intro w hSw;(try dsimp only at hSw);go_simp;try with_reducible rfl
      simp only[bP,bQ,aze,asu];refine wpAnyH_ready (rs:=[6]) (by kernel_rfl) (by simp) ?_;refine AllReadyH.cons rfl (fun K hK=> ?_) AllReadyH.nil;go_simp;refine(HMe.out _ hHeld).mono ?_;rintro e w4 ⟨v4,rfl,hv4,hL4⟩;have hL4':=hHeld.trans hL4.out;have Tp:∃a n c,v4=.slice a n c:=by
       cases o with
       |none=>exact⟨_,_,_,hv4⟩
       |some m=>obtain⟨a,c,e⟩:=Kind.dI (K:=bA) hv4;exact⟨a,_,c,e⟩
      obtain⟨a4,n4,c4,rfl⟩:=Tp;refine hK.out _ _ hL4' (fun hHeld=> ?_);clear hK K;refine au (i:=7) (d:=some 36) (v:= ?_) rfl rfl hHeld ?_ ?_;rotate_left;focus intro w hSw;(try dsimp only at hSw);go_simp;try with_reducible rfl
      simp only[bP,bQ,aze,asu];refine au (i:=8) (d:=some 44) (v:= ?_) rfl rfl hHeld ?_ ?_;rotate_left;focus intro w hSw;(try dsimp only at hSw);go_simp;try with_reducible rfl
      simp only[bP,bQ,aze,asu];refine au (i:=9) (d:=some 45) (v:= ?_) rfl rfl hHeld ?_ ?_;rotate_left;focus intro w hSw;(try dsimp only at hSw);go_simp;try with_reducible rfl
      simp only[bP,bQ,aze,asu];refine au (i:=10) (d:=some 7) (v:= ?_) rfl rfl hHeld ?_ ?_;rotate_left;focus intro w hSw;(try dsimp only at hSw);go_simp;try with_reducible rfl
      simp only[bP,bQ,aze,asu];refine au (i:=11) (d:=some 8) (v:= ?_) rfl rfl hHeld ?_ ?_;rotate_left;focus intro w hSw;(try dsimp only at hSw);go_simp;try with_reducible rfl
      simp only[bP,bQ,aze,asu];refine wpAnyH_done (by kernel_rfl) ?_ _;clear hHeld;cases o with
      |none=>
       have HE:Hid (RR=8):=by
        show _=_;have:=HGk.out;rw[Dx HNo.out HO.out.symm] at this;rw[HRR.out,this];rfl
       have HL4:=hide (HL1.out.trans (HLa.out.trans hL4'));simp only[Option.isSome_none];clear hL4 hL4' hv4 HMe HSc HGk HO HRR;go_wp2;go_ret;exact⟨by rw[HE.out];rfl,HL4.out⟩
      |some b4=>
       have QW:bA.own 190 wa.drew.heap.size w4 (.slice a4 n4 c4) b4:=hv4;have hb4:=wu HO.out.symm;have hs4:bA.sl bJ w4 (.slice a4 n4 c4) b4:=Kind.dN (Kind.gW QW (by omega));have HG4:Hid (KG=dW (body.drop (j+1)) (ks.map bf.fact) b4):=by
        show _=_;have:=HGk.out;rw[Dy HNo.out HO.out.symm] at this;exact this
       have HS4:=hide hs4;have HL4:=hide (HLa.out.trans hL4');obtain⟨ta4,Tq⟩:∃z,(if qc=1 then some (⟨b2,o2,none⟩:Addr) else some ⟨b2,o2+4,none⟩)=z:=⟨_,rfl⟩;have HT4:Hid ((o7 (m+1)).sl bJ w4 (.slice ta4 ks.length (qc-1)) ks):=by
        show Kind.sl _ _ _ _ _;rw[←Tq];exact Kind.aI HTl.out hL4'
       have Tt:b4.length≤4+4*(j+1):=by omega
       simp only[Option.isSome_some];clear hL4 hL4' hv4 QW hs4 HMe HSc HGk HO HTl hb4 HBa;go_wp2
       go_roundg (body.length- (j+1))
       case measure=>omega
       case rel=>exact⟨j+1,b4,ks,by omega,by go_num,HS4,Tt,HT4,HG4,HL4⟩
   ·have hg:=HG.out;rw[List.drop_eq_nil_of_le (by omega)] at hg;cases ks with
    |cons k ks=>
     have HE:Hid (RR=5):=by
      show _=_;rw[HRR.out,hg];rfl
     have hlp:(0:Int)<((ks.length+1:Nat):Int):=by omega
     clear hg HG HB HK Om;simp only[List.length_cons] at*;go_wp2;go_ret;exact⟨by rw[HE.out];rfl,HL1.out.trans HL.out⟩
    |nil=>
     have HE:Hid (RR=G6 all body b):=by
      show _=_;rw[HRR.out,hg];rfl
     have HBr:=hide (Om.out b _ wr HL.out HB.out);have hr0:=(HL.out.block (by omega)).trans HR0.out;have hr1:=(HL.out.block (by omega)).trans HR1.out;have g0:wr.cell? ⟨w.heap.size,0,none⟩=some (.slice pa pn pc):=by rw[cell_of_row _ _ _ _ _ _ hr0];rfl
     have g1:wr.cell? ⟨w.heap.size,0+1,none⟩=some (.slice ta tn tc):=by rw[cell_of_row _ _ _ _ _ _ hr0];rfl
     have g2:wr.cell? ⟨w.heap.size,0+2,none⟩=some (.slice aa all.length ac):=by rw[cell_of_row _ _ _ _ _ _ hr0];rfl
     have g3:wr.cell? ⟨w.heap.size+1,3,none⟩=some (.slice ba body.length bc):=by rw[cell_of_row _ _ _ _ _ _ hr1];rfl
     clear hg HG HB HK Om hr0 hr1;generalize G6 all body b=BE at*
     go_wp2_with fail
     refine HBr.out.mono ?_;rintro e w5 ⟨rfl,hL5⟩;have HL5:=hide (HL1.out.trans (HL.out.trans hL5));clear hL5 HBr;go_wp2;go_ret;exact⟨by rw[HE.out];rfl,HL5.out⟩
end Go.Proofs.YtafmbokfkbccaaaGreatDoor
namespace Go.Proofs.YtafmbokfkbccaaaGreatDoor
open Go.RowKit Go.Sort
theorem yX {n:Nat} {B:Nat→Prop} {w:World} {v:Value} {l:List bf} (h:(o7 n).sl B w v l) (hl:l≠[]):∃m,n=m+1:=by
 cases n with
 |succ m=>exact⟨m,rfl⟩
 |zero=>
  cases l with
  |nil=>exact absurd rfl hl
  |cons x l=>
   obtain⟨c,hc⟩:=xO h (x:=x) (by simp);exact hc.elim
theorem Av {g:bf→Int}:∀{l:List bf} {j:Nat} {x:bf},l[j]?=some x→jy g (l.drop j)=if g x≠0 then g x else jy g (l.drop (j+1)):=fun {l j x} h=>by
 obtain⟨hi,e⟩:=List.getElem?_eq_some_iff.1 h;rw[List.drop_eq_getElem_cons hi,e]
 rfl
theorem Aw {p:List aA} {told all:List aj} {n:Nat} {f:aj} {rl:Int} {kids:List bf} (h1:rl= -1) (h2:kids=[]) (h3:inB told f=true):dR p told all (n+1) (.mk f rl kids)=0:=by
 subst h1 h2;unfold dR;show(if(-1:Int)<0 then(if(-1:Int)= -1∧([]:List bf)=[]∧inB told f=true then(0:Int) else 6) else _)=0;rw[if_pos (by decide),if_pos ⟨rfl,rfl,h3⟩]
theorem oC {p:List aA} {told all:List aj} {n:Nat} {f:aj} {rl:Int} {kids:List bf} (h:rl<0) (h1:¬(rl= -1∧kids=[]∧inB told f=true)):dR p told all (n+1) (.mk f rl kids)=6:=by
 unfold dR;show(if rl<0 then(if rl= -1∧kids=[]∧inB told f=true then(0:Int) else 6) else _)=6;rw[if_pos h,if_neg h1]
theorem Ay {p:List aA} {told all:List aj} {n i:Nat} {f:aj} {kids:List bf} (h:p[i]?=none):dR p told all (n+1) (.mk f (i:Int) kids)=1:=by
 unfold dR;show(if(i:Int)<0 then _ else match p[((i:Int)).toNat]? with|none=>(1:Int)|some r=>_)=1;rw[if_neg (by omega),Int.toNat_natCast,h]
theorem Az {p:List aA} {told all:List aj} {n i:Nat} {f:aj} {kids:List bf} {r:aA} (h:p[i]?=some r):dR p told all (n+1) (.mk f (i:Int) kids)=if jO all r f (kids.map bf.fact)≠0 then jO all r f (kids.map bf.fact) else jy (dR p told all n) kids:=by
 conv=>lhs;unfold dR
 show(if(i:Int)<0 then _ else match p[((i:Int)).toNat]? with|none=>(1:Int)|some r=>if jO all r f (kids.map bf.fact)≠0 then jO all r f (kids.map bf.fact) else jy (dR p told all n) kids)=_;rw[if_neg (by omega),Int.toNat_natCast,h]
set_option maxRecDepth 100000 in
set_option maxHeartbeats 8000000 in
theorem Ga (p:List aA) (told all:List aj) (hsh:∀r∈p,r.head.terms.length≤4∧r.body.length≤5∧∀a∈r.body,a.terms.length≤4) (hpl:p.length≤16) (hrt:fI told) (hra:fI all):
  ∀(n:Nat) (x:bf) (pv tv av xv:Value) (w:World),eD.sl bJ w pv p→Facts w tv told→Facts w av all→sI n bJ w xv x→
  Calls Tryz.prog 55 #[.agg #[pv,tv,av],xv] w fun e w'=>e=.returned (.int .i64 (dR p told all (n+1) x))∧Later w w'
 |n,x,pv,tv,av,xv,w,hp,ht,ha,hx=>by
  have IH:∀m,n=m+1→∀(k:bf) (kv:Value) (w':World),Later w w'→sI m bJ w' kv k→Calls Tryz.prog 55 #[.agg #[pv,tv,av],kv] w' fun e w''=>e=.returned (.int .i64 (dR p told all n k))∧Later w' w'':=fun m hm k kv w' hL hk=>by
   have:=Ga p told all hsh hpl hrt hra m k pv tv av kv w' (Kind.aI hp hL) (ht.later hL) (ha.later hL) hk;rw[hm];exact this
  obtain⟨s,kv,rfl,hs,hkv⟩:=hx;obtain⟨pa,pc,rfl⟩:=Kind.slice hp;obtain⟨ta,tc,rfl⟩:=aD ht;obtain⟨aa,ac,rfl⟩:=aD ha;obtain⟨sa,sc,rfl⟩:=Kind.slice hs;obtain⟨ka,kc,rfl⟩:=Kind.slice hkv;have hkl:=hkv.1.1;obtain⟨w1,hw1⟩:∃w1,w1=(w.alloc (.cells #[.slice pa p.length pc,.slice ta told.length tc,.slice aa all.length ac] 109)).alloc (.cells #[.string x.fact.1,.slice sa x.fact.2.length sc,.int .i64 x.rule,.slice ka x.kids.length kc] 30):=⟨_,rfl⟩;have hL1:Later w w1:=by rw[hw1];exact((Later.refl w).alloc _).alloc _
  have hs1:w1.heap.size=w.heap.size+2:=by rw[hw1];simp
  have hr0:w1.heap[w.heap.size]?=some (.cells #[.slice pa p.length pc,.slice ta told.length tc,.slice aa all.length ac] 109 (0,0)):=by
   rw[hw1];simp only[bO,World.size_alloc]
   repeat (first|rw[if_pos trivial]|rw[if_pos (by omega)]|rw[if_neg (by omega)])
  have hr1:w1.heap[w.heap.size+1]?=some (.cells #[.string x.fact.1,.slice sa x.fact.2.length sc,.int .i64 x.rule,.slice ka x.kids.length kc] 30 (0,0)):=by
   rw[hw1];simp only[bO,World.size_alloc]
   repeat (first|rw[if_pos trivial]|rw[if_pos (by omega)]|rw[if_neg (by omega)])
  have HIn:=hide (inC (.slice ta told.length tc) (.agg #[.string x.fact.1,.slice sa x.fact.2.length sc]) told x.fact w1 (ht.later hL1) ⟨_,rfl,(kJ hs).later hL1⟩ hrt);have HIH:=hide IH;have HSt:Hid (∀(r:aA) (hv bv:Value) (w':World),r∈p→Later w1 w'→dn.sl bJ w' hv r.head.terms→bN.sl bJ w' bv r.body→Calls Tryz.prog 99 #[.agg #[.slice pa p.length pc,.slice ta told.length tc,.slice aa all.length ac],.agg #[.bool r.head.no,.string (bs r.head.name),hv,bv],.agg #[.string x.fact.1,.slice sa x.fact.2.length sc,.int .i64 x.rule,.slice ka x.kids.length kc]] w' fun e w''=>e=.returned (.int .i64 (jO all r x.fact (x.kids.map bf.fact)))∧Later w' w''):=fun r hv bv w' hr h h1 h2=>
   Dz all r x n _ _ _ hv bv _ w' ⟨_,_,_,rfl⟩ ⟨_,_,_,rfl⟩ ((ha.later hL1).later h) hra h1 h2 ⟨_,_,rfl,Kind.aI (Kind.aI hs hL1) h,Kind.aI (Kind.aI hkv hL1) h⟩ (hsh r hr).1 (hsh r hr).2.1 (hsh r hr).2.2
  have HPv:=hide (Kind.aI hp hL1);have HKv:=hide (Kind.aI hkv hL1);have HL1:=hide hL1;have HR0:=hide hr0;have HR1:=hide hr1;have HW1:=hide hw1;have HC:Hid (∀w',Later w1 w'→(w'.cell? ⟨w.heap.size,0,none⟩=some (.slice pa p.length pc)∧w'.cell? ⟨w.heap.size,0+1,none⟩=some (.slice ta told.length tc)∧w'.cell? ⟨w.heap.size,0+2,none⟩=some (.slice aa all.length ac))∧
    (w'.cell? ⟨w.heap.size+1,0,none⟩=some (.string x.fact.1)∧w'.cell? ⟨w.heap.size+1,0+1,none⟩=some (.slice sa x.fact.2.length sc)∧w'.cell? ⟨w.heap.size+1,0+2,none⟩=some (.int .i64 x.rule)∧w'.cell? ⟨w.heap.size+1,0+3,none⟩=some (.slice ka x.kids.length kc))∧w'.cell? ⟨w.heap.size,1,none⟩=some (.slice ta told.length tc)∧w'.cell? ⟨w.heap.size+1,2,none⟩=some (.int .i64 x.rule)∧w'.cell? ⟨w.heap.size+1,3,none⟩=some (.slice ka x.kids.length kc)):=fun w' h=>by
   have h0:=(h.block (by omega)).trans hr0;have h1:=(h.block (by omega)).trans hr1;refine⟨⟨?_,?_,?_⟩,⟨?_,?_,?_,?_⟩,?_,?_,?_⟩
   ·rw[cell_of_row _ _ _ _ _ _ h0];rfl
   ·rw[cell_of_row _ _ _ _ _ _ h0];rfl
   ·rw[cell_of_row _ _ _ _ _ _ h0];rfl
   ·rw[cell_of_row _ _ _ _ _ _ h1];rfl
   ·rw[cell_of_row _ _ _ _ _ _ h1];rfl
   ·rw[cell_of_row _ _ _ _ _ _ h1];rfl
   ·rw[cell_of_row _ _ _ _ _ _ h1];rfl
   ·rw[cell_of_row _ _ _ _ _ _ h0];rfl
   ·rw[cell_of_row _ _ _ _ _ _ h1];rfl
   ·rw[cell_of_row _ _ _ _ _ _ h1];rfl
  obtain⟨RR,hRR⟩:∃RR:Int,RR=dR p told all (n+1) x:=⟨_,rfl⟩;rw[←hRR];obtain⟨⟨g0,g1,g2⟩,⟨x0,x1,x2,x3⟩,v1,v2,v3⟩:=HC.out w1 (Later.refl _);clear hp ht ha hs hkv hL1 hr0 hr1 hw1 IH;obtain⟨⟨fn,aH⟩,rl,kids⟩:=x;dsimp only[bf.fact,bf.rule,bf.kids] at*
  by_cases hneg:rl<0
  ·rw[sN] at HIn
   by_cases h1:rl= -1
   ·by_cases h2:kids=[]
    ·have hz:decide (0<kids.length)=false:=by rw[h2];rfl
     cases hi:inB told (fn,aH) with
     |true=>
      rw[Aw h1 h2 hi] at hRR;rw[hi] at HIn;have HE:=hide hRR;subst h1;clear hRR hi h2 HSt HIH
      go_enter Tryz.func55,Tryz.ntmps55
      go_wp2_with (first|(rw[←HW1.out])|fail)
      refine HIn.out.mono ?_;rintro e w2 ⟨rfl,hL2⟩;have HL2:=hide (HL1.out.trans hL2);clear hL2 HIn;go_wp2;go_ret;exact⟨by rw[HE.out];rfl,HL2.out⟩
     |false=>
      rw[oC hneg (by rw[hi];simp)] at hRR;rw[hi] at HIn;have HE:=hide hRR;subst h1;clear hRR hi h2 HSt HIH
      go_enter Tryz.func55,Tryz.ntmps55
      go_wp2_with (first|(rw[←HW1.out])|fail)
      refine HIn.out.mono ?_;rintro e w2 ⟨rfl,hL2⟩;have HL2:=hide (HL1.out.trans hL2);clear hL2 HIn;go_wp2;go_ret;exact⟨by rw[HE.out];rfl,HL2.out⟩
    ·have hz:decide (0<kids.length)=true:=decide_eq_true (List.length_pos_iff.2 h2);rw[oC hneg (fun h=>h2 h.2.1)] at hRR;have HE:=hide hRR;subst h1;clear hRR h2 HSt HIH HIn
     go_enter Tryz.func55,Tryz.ntmps55
     go_wp2_with (first|(rw[←HW1.out])|fail)
     go_ret;exact⟨by rw[HE.out];rfl,HL1.out⟩
   ·have hq:(rl != -1)=true:=by simpa using h1
    rw[oC hneg (fun h=>h1 h.1)] at hRR;have HE:=hide hRR;clear hRR h1 HSt HIH HIn
    go_enter Tryz.func55,Tryz.ntmps55
    go_wp2_with (first|(rw[←HW1.out])|fail)
    go_ret;exact⟨by rw[HE.out];rfl,HL1.out⟩
  ·obtain⟨i,hi⟩:∃i:Nat,rl=(i:Int):=⟨rl.toNat,by omega⟩;subst hi
   by_cases hge:p.length≤i
   ·have hgi:((p.length:Int)≤(i:Int)):=by omega
    rw[Ay (List.getElem?_eq_none hge)] at hRR;have HE:=hide hRR;clear hRR HSt HIH HIn hge
    go_enter Tryz.func55,Tryz.ntmps55
    go_wp2_with (first|(rw[←HW1.out])|fail)
    go_ret;exact⟨by rw[HE.out];rfl,HL1.out⟩
   ·have hgi:¬((p.length:Int)≤(i:Int)):=by omega
    obtain⟨r,hr⟩:∃r,p[i]?=some r:=⟨_,List.getElem?_eq_getElem (by omega)⟩;rw[Az hr] at hRR;obtain⟨b1,o1,_,e1,hb1,hri,hc⟩:=Kind.fP HPv.out hr;subst e1;obtain⟨hv,bv,hce,hhv,hbv⟩:=hri;subst hce;obtain⟨ha',hc',rfl⟩:=Kind.slice hhv;obtain⟨ba,bc,rfl⟩:=Kind.slice hbv;have HRc:Hid (∀w',Later w1 w'→w'.cell? ⟨b1,o1+i*4,none⟩=some (.bool r.head.no)∧w'.cell? ⟨b1,o1+i*4+1,none⟩=some (.string (bs r.head.name))∧w'.cell? ⟨b1,o1+i*4+2,none⟩=some (.slice ha' r.head.terms.length hc')∧w'.cell? ⟨b1,o1+i*4+3,none⟩=some (.slice ba r.body.length bc)):=fun w' h=>
     ⟨by rw[h.cell (p:=⟨b1,o1+i*4,none⟩) hb1];simpa[eD] using hc 0 _ rfl,by rw[h.cell (p:=⟨b1,o1+i*4+1,none⟩) hb1];simpa[eD] using hc 1 _ rfl,by rw[h.cell (p:=⟨b1,o1+i*4+2,none⟩) hb1];simpa[eD] using hc 2 _ rfl,by rw[h.cell (p:=⟨b1,o1+i*4+3,none⟩) hb1];simpa[eD] using hc 3 _ rfl⟩
    have HS:Hid (∀w',Later w1 w'→_):=fun w' h=>HSt.out r (.slice ha' r.head.terms.length hc') (.slice ba r.body.length bc) w' (List.mem_of_getElem? hr) h (Kind.aI hhv h) (Kind.aI hbv h);obtain⟨SE,hSE⟩:∃SE,SE=jO all r (fn,aH) (kids.map bf.fact):=⟨_,rfl⟩;rw[←hSE] at hRR HS;have HRR:=hide hRR;have hil:(i:Int)<(p.length:Int):=by omega
    have Uv:i<p.length:=by omega
    have h0i:(0:Int)≤(i:Int):=by omega
    clear hRR hr hc hhv hbv HSt HIn hSE;generalize bs r.head.name=nm at*;generalize r.head.no=no at*
    go_enter Tryz.func55,Tryz.ntmps55
    go_wp2_with (first|(rw[←HW1.out])|fail)
    refine wp_region_held_drew (S:=fun w'=>Later w1 w') (by kernel_rfl) (Later.refl w1).drew (fun hHeld=> ?_);refine au (i:=0) (d:=some 35) (v:= ?_) rfl rfl hHeld ?_ ?_;rotate_left;focus intro w hSw;(try dsimp only at hSw);obtain⟨⟨p0,p1,p2⟩,⟨p3,p4,p5,p6⟩,p7,p8,p9⟩:=HC.out _ hSw;go_simp;try with_reducible rfl
    simp only[bP,bQ,aze,asu];refine au (i:=1) (d:=some 36) (v:= ?_) rfl rfl hHeld ?_ ?_;rotate_left;focus intro w hSw;(try dsimp only at hSw);go_simp;try with_reducible rfl
    simp only[bP,bQ,aze,asu];refine au (i:=2) (d:=some 37) (v:= ?_) rfl rfl hHeld ?_ ?_;rotate_left;focus intro w hSw;(try dsimp only at hSw);obtain⟨⟨p0,p1,p2⟩,⟨p3,p4,p5,p6⟩,p7,p8,p9⟩:=HC.out _ hSw;go_simp;try with_reducible rfl
    simp only[bP,bQ,aze,asu];refine au (i:=3) (d:=some 38) (v:= ?_) rfl rfl hHeld ?_ ?_;rotate_left;focus intro w hSw;(try dsimp only at hSw);go_simp;try with_reducible rfl
    simp only[bP,bQ,aze,asu];refine au (i:=4) (d:=some 39) (v:= ?_) rfl rfl hHeld ?_ ?_;rotate_left;focus intro w hSw;(try dsimp only at hSw);obtain⟨⟨p0,p1,p2⟩,⟨p3,p4,p5,p6⟩,p7,p8,p9⟩:=HC.out _ hSw;go_simp;try with_reducible rfl
    simp only[bP,bQ,aze,asu];refine au (i:=5) (d:=some 40) (v:= ?_) rfl rfl hHeld ?_ ?_;rotate_left;focus intro w hSw;(try dsimp only at hSw);go_simp;try with_reducible rfl
    simp only[bP,bQ,aze,asu];refine au (i:=6) (d:=some 41) (v:= ?_) rfl rfl hHeld ?_ ?_;rotate_left;focus intro w hSw;(try dsimp only at hSw);obtain⟨p0,p1,p2,p3⟩:=HRc.out _ hSw;go_simp;try with_reducible rfl
    simp only[bP,bQ,aze,asu];refine au (i:=7) (d:=some 42) (v:= ?_) rfl rfl hHeld ?_ ?_;rotate_left;focus intro w hSw;(try dsimp only at hSw);obtain⟨⟨p0,p1,p2⟩,⟨p3,p4,p5,p6⟩,p7,p8,p9⟩:=HC.out _ hSw;go_simp;try with_reducible rfl
    simp only[bP,bQ,aze,asu];refine wpAnyH_ready (rs:=[8]) (by kernel_rfl) (by simp) ?_;refine AllReadyH.cons rfl (fun K hK=> ?_) AllReadyH.nil;go_simp;refine(HS.out _ hHeld).mono ?_;rintro e w2 ⟨rfl,hL2⟩;have hL2':=hHeld.trans hL2;refine hK.out _ _ hL2' (fun hHeld=> ?_);clear hK K;refine au (i:=9) (d:=some 5) (v:= ?_) rfl rfl hHeld ?_ ?_;rotate_left;focus intro w hSw;(try dsimp only at hSw);go_simp;try with_reducible rfl
    simp only[bP,bQ,aze,asu];refine wpAnyH_done (by kernel_rfl) ?_ _;clear hHeld hL2;have HL2:=hide hL2'
    by_cases h0:SE=0
    ·have HE:Hid (RR=jy (dR p told all n) kids):=by show _=_;rw[HRR.out,if_neg (by rw[h0];simp)]
     subst h0;have y3':w2.cell? ⟨w.heap.size+1,3,none⟩=some (.slice ka kids.length kc):=(HC.out _ hL2').2.2.2.2;clear hL2' HRR HS;go_wp2;clear y3'
     go_loopg [50] kids.length (fun g i wr=>∃j:Nat,j+g=kids.length∧i=.int .i64 j∧Hid (RR=jy (dR p told all n) (kids.drop j))∧Hid (Later w1 wr))
     case atStart=>exact⟨0,by omega,rfl,HE,HL2⟩
     case round=>
      clear HE HL2;obtain⟨j,hj,rfl,HE,HL⟩:=hrel
      by_cases hlt:j<kids.length
      ·obtain⟨k,hk⟩:∃k,kids[j]?=some k:=⟨_,List.getElem?_eq_getElem hlt⟩;obtain⟨m,hm⟩:=yX HKv.out (by intro e;rw[e] at hlt;simp at hlt);have hKv:=HKv.out;rw[hm] at hKv;obtain⟨b2,o2,s2,kv2,e2,hb2,_,q0,q1,q2,q3,hs2,hk2⟩:=yx hKv hk;simp only[Value.slice.injEq] at e2;obtain⟨rfl,_,_⟩:=e2;obtain⟨sa2,sc2,rfl⟩:=Kind.slice hs2;obtain⟨ka2,kc2,rfl⟩:=Kind.slice hk2;have d0:wr.cell? ⟨b2,o2+j*4,none⟩=some (.string k.fact.1):=by rw[HL.out.cell (p:=⟨b2,o2+j*4,none⟩) hb2];exact q0
       have d1:wr.cell? ⟨b2,o2+j*4+1,none⟩=some (.slice sa2 k.fact.2.length sc2):=by rw[HL.out.cell (p:=⟨b2,o2+j*4+1,none⟩) hb2];exact q1
       have d2:wr.cell? ⟨b2,o2+j*4+2,none⟩=some (.int .i64 k.rule):=by rw[HL.out.cell (p:=⟨b2,o2+j*4+2,none⟩) hb2];exact q2
       have d3:wr.cell? ⟨b2,o2+j*4+3,none⟩=some (.slice ka2 k.kids.length kc2):=by rw[HL.out.cell (p:=⟨b2,o2+j*4+3,none⟩) hb2];exact q3
       obtain⟨wk,hwk⟩:∃wk,wk=wr.alloc (.cells #[.string k.fact.1,.slice sa2 k.fact.2.length sc2,.int .i64 k.rule,.slice ka2 k.kids.length kc2] 30):=⟨_,rfl⟩;have hLk:Later wr wk:=by rw[hwk];exact(Later.refl wr).alloc _
       have hRk:wk.heap[wr.heap.size]?=some (.cells #[.string k.fact.1,.slice sa2 k.fact.2.length sc2,.int .i64 k.rule,.slice ka2 k.kids.length kc2] 30 (0,0)):=by rw[hwk];exact heap_alloc_new wr _
       have hLK:=HL.out.trans hLk;have k0:wk.cell? ⟨wr.heap.size,0,none⟩=some (.string k.fact.1):=by rw[cell_of_row _ _ _ _ _ _ hRk];rfl
       have k1:wk.cell? ⟨wr.heap.size,0+1,none⟩=some (.slice sa2 k.fact.2.length sc2):=by rw[cell_of_row _ _ _ _ _ _ hRk];rfl
       have k2:wk.cell? ⟨wr.heap.size,0+2,none⟩=some (.int .i64 k.rule):=by rw[cell_of_row _ _ _ _ _ _ hRk];rfl
       have k3:wk.cell? ⟨wr.heap.size,0+3,none⟩=some (.slice ka2 k.kids.length kc2):=by rw[cell_of_row _ _ _ _ _ _ hRk];rfl
       obtain⟨⟨z0,z1,z2⟩,_⟩:=HC.out wk hLK;have HCl:=hide (HIH.out m hm k (.agg #[.string k.fact.1,.slice sa2 k.fact.2.length sc2,.int .i64 k.rule,.slice ka2 k.kids.length kc2]) wk (HL1.out.trans hLK) ⟨_,_,rfl,Kind.aI hs2 hLK,Kind.aI hk2 hLK⟩);have hfd:=Av (g:=dR p told all n) hk;have HLK:=hide hLK;have HWk:=hide hwk;obtain⟨G,hG⟩:∃G,G=dR p told all n k:=⟨_,rfl⟩;rw[←hG] at HCl hfd;have HFd:=hide hfd;obtain⟨⟨kn,PK⟩,krl,kk⟩:=k;dsimp only[bf.fact,bf.rule,bf.kids] at*;clear hk hKv q0 q1 q2 q3 hs2 hk2 hwk hLk hRk hLK hfd hG hm
       go_wp2_with (first|(rw[←HWk.out])|fail)
       refine HCl.out.mono ?_;rintro e w3 ⟨rfl,hL3⟩;have HL3:=hide (HLK.out.trans hL3);clear hL3 HCl d0 d1 d2 d3 k0 k1 k2 k3 z0 z1 z2
       by_cases hG0:G=0
       ·have HE2:Hid (RR=jy (dR p told all n) (kids.drop (j+1))):=by show _=_;rw[HE.out,HFd.out,if_neg (by rw[hG0];simp)]
        subst hG0;clear HFd HE;go_wp2
        go_roundg (kids.length- (j+1))
        case measure=>omega
        case rel=>exact⟨j+1,by omega,by go_num,HE2,HL3⟩
       ·have hq:(G != 0)=true:=by simpa using hG0
        have HE2:Hid (RR=G):=by show _=_;rw[HE.out,HFd.out,if_pos hG0]
        clear HFd HE hG0;go_wp2;go_ret;exact⟨by rw[HE2.out];rfl,HL1.out.trans HL3.out⟩
      ·have HE2:Hid (RR=0):=by show _=_;rw[HE.out,List.drop_eq_nil_of_le (by omega)];rfl
       clear HE;go_wp2;go_ret;exact⟨by rw[HE2.out];rfl,HL1.out.trans HL.out⟩
    ·have hq:(SE != 0)=true:=by simpa using h0
     have HE:Hid (RR=SE):=by show _=_;rw[HRR.out,if_pos h0]
     clear hL2' HRR HS h0;go_wp2;go_ret;exact⟨by rw[HE.out];rfl,HL1.out.trans HL2.out⟩
end Go.Proofs.YtafmbokfkbccaaaGreatDoor
namespace Go.Proofs.YtafmbokfkbccaaaGreatDoor
open Go.RowKit Go.Sort
def Ld (n:Nat) (w:World) (b o:Nat) (x:bf):Prop:=∃s kv,w.cell? ⟨b,o,none⟩=some (.string x.fact.1)∧w.cell? ⟨b,o+1,none⟩=some s∧w.cell? ⟨b,o+2,none⟩=some (.int .i64 x.rule)∧w.cell? ⟨b,o+3,none⟩=some kv∧bsK.sl bJ w s x.fact.2∧(o7 n).sl bJ w kv x.kids
structure wL (w w':World) (b o:Nat) (g:aj) (gs:Value):Prop where
 c0:∃t,w.cell? ⟨b,o,none⟩=some (.string t)
 c1:∃a n c,w.cell? ⟨b,o+1,none⟩=some (.slice a n c)
 n0:w'.cell? ⟨b,o,none⟩=some (.string g.1)
 n1:w'.cell? ⟨b,o+1,none⟩=some gs
 st:bsK.sl bJ w' gs g.2
 size:w.heap.size≤w'.heap.size
 other:∀k j,¬(k=b∧j=o)→¬(k=b∧j=o+1)→w'.cell? ⟨k,j,none⟩=w.cell? ⟨k,j,none⟩
variable {w w':World} {b o:Nat} {g:aj} {gs:Value}
theorem wL.QX (h:wL w w' b o g gs) {k j:Nat} {t:ByteArray} (hc:w.cell? ⟨k,j,none⟩=some (.string t)):∃t',w'.cell? ⟨k,j,none⟩=some (.string t'):=by
 by_cases h0:k=b∧j=o
 ·obtain⟨rfl,rfl⟩:=h0;exact⟨_,h.n0⟩
 ·refine⟨t,?_⟩;rw[h.other k j h0 ?_]
  ·exact hc
  ·rintro⟨rfl,rfl⟩;obtain⟨a,n,c,e⟩:=h.c1;rw[hc] at e;cases e
theorem wL.QY (h:wL w w' b o g gs) {k j:Nat} {t:Int} (hc:w.cell? ⟨k,j,none⟩=some (.int .i64 t)):w'.cell? ⟨k,j,none⟩=some (.int .i64 t):=by
 rw[h.other k j ?_ ?_]
 ·exact hc
 ·rintro⟨rfl,rfl⟩;obtain⟨a,e⟩:=h.c0;rw[hc] at e;cases e
 ·rintro⟨rfl,rfl⟩;obtain⟨a,n,c,e⟩:=h.c1;rw[hc] at e;cases e
theorem wL.QZ (h:wL w w' b o g gs) {k j:Nat} {t:Int} {a:Option Addr} {n c:Nat} (hi:w.cell? ⟨k,j+2,none⟩=some (.int .i64 t)) (hc:w.cell? ⟨k,j+3,none⟩=some (.slice a n c)):w'.cell? ⟨k,j+3,none⟩=some (.slice a n c):=by
 rw[h.other k (j+3) ?_ ?_]
 ·exact hc
 ·rintro⟨rfl,rfl⟩;obtain⟨a,e⟩:=h.c0;rw[hc] at e;cases e
 ·rintro⟨rfl,e⟩;obtain⟨a,e0⟩:=h.c0;have:o=j+2:=by omega
  subst this;rw[hi] at e0;cases e0
theorem rO {α β γ:Type} {P:Nat→β→Prop} {f:α→γ} {f':β→γ}:∀{l:List α},(∀i x,l[i]?=some x→∃y,P i y∧f' y=f x)→∃l':List β,l'.map f'=l.map f∧∀i y,l'[i]?=some y→P i y:=fun {l}=>by
 induction l generalizing P with
 |nil=>exact fun _=>⟨[],rfl,fun i y h=>by simp at h⟩
 |cons x l ih=>
  intro h;obtain⟨y,hy,e⟩:=h 0 x rfl;obtain⟨l',e',h'⟩:=ih (P:=fun i=>P (i+1)) fun i z hz=>h (i+1) z (by simpa using hz);refine⟨y::l',by simp[e,e'],fun i z hz=> ?_⟩;cases i with
  |zero=>simp at hz;subst hz;exact hy
  |succ i=>exact h' i z (by simpa using hz)
theorem Gb {α β γ:Type} {f:α→γ} {f':β→γ} {l:List α} {l':List β} (h:l'.map f'=l.map f):l'.length=l.length:=by
 have:=congrArg List.length h;simpa using this
theorem wL.strs (h:wL w w' b o g gs) {v:Value} {l:List ByteArray} (hs:bsK.sl bJ w v l):∃l',bsK.sl bJ w' v l':=by
 obtain⟨h0,a,cap,rfl,h1⟩:=hs
 by_cases hl:l=[]
 ·subst hl;exact⟨[],Kind.gF _ _ _ _ _⟩
 ·obtain⟨b1,off,rfl,hB,hb,hc⟩:=h1 hl;obtain⟨l',e,hl'⟩:=rO (P:=fun i t=>w'.cell? ⟨b1,off+i*1+0,none⟩=some (.string t)) (f:=fun _=>()) (f':=fun _=>()) (l:=l) fun i x hx=>by
   obtain⟨c,rfl,c2⟩:=hc i x hx;obtain⟨t,ht⟩:=h.QX (c2 0 _ rfl);exact⟨t,ht,rfl⟩
  have hlen:=Gb e;refine⟨l',⟨by omega,h0.2⟩,some ⟨b1,off,none⟩,cap,by rw[hlen],fun _=>⟨b1,off,rfl,trivial,Nat.lt_of_lt_of_le hb h.size,fun i x hx=>⟨[.string x],rfl,fun j u hu=> ?_⟩⟩⟩;cases j with
  |zero=>
   simp at hu;subst hu;exact hl' i x hx
  |succ j=>simp at hu
theorem wL.one (h:wL w w' b o g gs) {n k j:Nat} {x:bf} (hx:Ld n w k j x) (IH:∀{v:Value} {l:List bf},(o7 n).sl bJ w v l→∃l',(o7 n).sl bJ w' v l'∧l'.map (cnt n)=l.map (cnt n)):∃y,Ld n w' k j y∧cnt (n+1) y=cnt (n+1) x:=by
 obtain⟨s,kv,c0,c1,c2,c3,hs,hk⟩:=hx;obtain⟨sa,sc,rfl⟩:=Kind.slice hs;obtain⟨ka,kc,rfl⟩:=Kind.slice hk;obtain⟨t,ht⟩:=h.QX c0;obtain⟨ks,hks,he⟩:=IH hk;obtain⟨s',args,hs',hargs⟩:∃s' args,w'.cell? ⟨k,j+1,none⟩=some s'∧bsK.sl bJ w' s' args:=by
  by_cases h1:k=b∧j+1=o+1
  ·obtain⟨rfl,e⟩:=h1;have:j=o:=by omega
   subst this;exact⟨_,_,h.n1,h.st⟩
  ·obtain⟨l',hl'⟩:=h.strs hs;refine⟨_,l',?_,hl'⟩;rw[h.other k (j+1) ?_ h1]
   ·exact c1
   ·rintro⟨rfl,rfl⟩;obtain⟨q,e⟩:=h.c0;rw[c1] at e;cases e
 refine⟨.mk (t,args) x.rule ks,⟨s',_,ht,hs',h.QY c2,h.QZ c2 c3,hargs,hks⟩,?_⟩;show 1+(ks.map (cnt n)).sum=1+(x.kids.map (cnt n)).sum;rw[he]
theorem wL.row (h:wL w w' b o g gs):∀(n:Nat) {v:Value} {l:List bf},(o7 n).sl bJ w v l→∃l',(o7 n).sl bJ w' v l'∧l'.map (cnt n)=l.map (cnt n)
 |0,v,l,hl=>by
  have:l=[]:=by
   cases l with
   |nil=>rfl
   |cons x l=>
    obtain⟨c,hc⟩:=xO hl (x:=x) (by simp);exact hc.elim
  subst this;obtain⟨a,cap,rfl⟩:=Kind.slice hl;exact⟨[],Kind.gF _ _ _ _ _,rfl⟩
 |n+1,v,l,hl=>by
  have hl0:=hl;obtain⟨h0,a,cap,rfl,h1⟩:=hl
  by_cases hne:l=[]
  ·subst hne;exact⟨[],Kind.gF _ _ _ _ _,rfl⟩
  ·obtain⟨b1,off,rfl,hB,hb,hc⟩:=h1 hne;obtain⟨l',e,hl'⟩:=rO (P:=fun i y=>Ld n w' b1 (off+i*4) y) (f:=cnt (n+1)) (f':=cnt (n+1)) (l:=l) fun i x hx=>by
    obtain⟨c,⟨s,kv,rfl,h2,h3⟩,hcell⟩:=hc i x hx;exact h.one ⟨s,kv,(by show w.cell? ⟨b1,off+i*4+0,none⟩=_;exact hcell 0 _ rfl),hcell 1 _ rfl,hcell 2 _ rfl,hcell 3 _ rfl,h2,h3⟩ (h.row n)
   have hlen:=Gb e;refine⟨l',⟨⟨by omega,h0.2⟩,some ⟨b1,off,none⟩,cap,by rw[hlen],fun _=>⟨b1,off,rfl,trivial,Nat.lt_of_lt_of_le hb h.size,fun i x hx=> ?_⟩⟩,e⟩;obtain⟨s,kv,d0,d1,d2,d3,hs,hk⟩:=hl' i x hx;refine⟨[.string x.fact.1,s,.int .i64 x.rule,kv],⟨s,kv,rfl,hs,hk⟩,fun j u hu=> ?_⟩
   match j,hu with
   |0,hu=>simp at hu;subst hu;exact d0
   |1,hu=>simp at hu;subst hu;exact d1
   |2,hu=>simp at hu;subst hu;exact d2
   |3,hu=>simp at hu;subst hu;exact d3
   |j+4,hu=>simp at hu
theorem wL.prf (h:wL w w' b o g gs) {n k j:Nat} {x:bf} (hx:Ld n w k j x):∃y,Ld n w' k j y∧cnt (n+1) y=cnt (n+1) x:=h.one hx (h.row n)
inductive Road (w:World):Nat→Nat→Nat→Nat→Prop
 |here (b o:Nat):Road w b o b o
 |kid {b o kb ko n c i zb zo:Nat} {t:Int} (hi:w.cell? ⟨b,o+2,none⟩=some (.int .i64 t)) (hk:w.cell? ⟨b,o+3,none⟩=some (.slice (some ⟨kb,ko,none⟩) n c)) (hl:i<n) (h:Road w kb (ko+i*4) zb zo):Road w b o zb zo
theorem Road.trans {b1 o1 b2 o2 b3 o3:Nat} (h:Road w b1 o1 b2 o2) (h':Road w b2 o2 b3 o3):Road w b1 o1 b3 o3:=by
 induction h with
 |here=>exact h'
 |kid hi hk hl _ ih=>exact .kid hi hk hl (ih h')
theorem wL.road (h:wL w w' b o g gs) {b1 o1 b2 o2:Nat} (hr:Road w b1 o1 b2 o2):Road w' b1 o1 b2 o2:=by
 induction hr with
 |here=>exact .here _ _
 |kid hi hk hl _ ih=>exact .kid (h.QY hi) (h.QZ hi hk) hl ih
theorem Gc {v:Value} {l l':List ByteArray} (h:bsK.sl bJ w v l) (h':bsK.sl bJ w v l'):l=l':=by
 obtain⟨_,a,cap,rfl,h1⟩:=h;obtain⟨_,a',cap',e,h2⟩:=h';simp only[Value.slice.injEq] at e;obtain⟨rfl,hlen,rfl⟩:=e;refine List.ext_getElem? fun i=> ?_;cases hx:l[i]? with
 |none=>
  have:=List.getElem?_eq_none_iff.1 hx;rw[List.getElem?_eq_none (by omega)]
 |some x=>
  obtain⟨hi,_⟩:=List.getElem?_eq_some_iff.1 hx;obtain⟨y,hy⟩:∃y,l'[i]?=some y:=⟨_,List.getElem?_eq_getElem (by omega)⟩;obtain⟨b1,off,e1,_,_,c1⟩:=h1 (by intro e;subst e;simp at hx);obtain⟨b2,off2,e2,_,_,c2⟩:=h2 (by intro e;subst e;simp at hy);rw[e1] at e2;cases e2;obtain⟨c,rfl,d1⟩:=c1 i x hx;obtain⟨c,rfl,d2⟩:=c2 i y hy;have g1:=d1 0 _ rfl;have g2:=d2 0 _ rfl;rw[g1] at g2;rw[hy];simpa using g2
theorem I4 {b1 o1 b2 o2:Nat} (hr:Road w b1 o1 b2 o2) (h0:w.cell? ⟨b2,o2,none⟩=some (.string g.1)) (h1:w.cell? ⟨b2,o2+1,none⟩=some gs) (hs:bsK.sl bJ w gs g.2):∀{n:Nat} {x:bf},Ld n w b1 o1 x→∃y,Sub x y∧y.fact=g:=by
 induction hr with
 |here b o=>
  intro n x ⟨s,kv,c0,c1,_,_,hx,_⟩;rw[c0] at h0;rw[c1] at h1;simp only[Option.some.injEq,Value.string.injEq] at h0 h1;subst h1;exact⟨x,.here x,Prod.ext h0 (Gc hx hs)⟩
 | @kid b o kb ko m c i zb zo t hi hk hl _ ih=>
  intro n x ⟨s,kv,_,_,_,c3,_,hx⟩;rw[hk] at c3;simp only[Option.some.injEq] at c3;subst c3;obtain⟨a,cap,e⟩:=Kind.slice hx;simp only[Value.slice.injEq] at e;have hne:x.kids≠[]:=by intro e0;rw[e0] at e;simp at e;omega
  obtain⟨q,rfl⟩:=yX hx hne;obtain⟨k,hkk⟩:∃k,x.kids[i]?=some k:=⟨_,List.getElem?_eq_getElem (by omega)⟩;obtain⟨b2,o2,s2,kv2,e2,_,_,q0,q1,q2,q3,hs2,hk2⟩:=yx hx hkk;simp only[Value.slice.injEq,Option.some.injEq] at e2;obtain⟨e2,_,_⟩:=e2;cases e2;obtain⟨y,hy,ey⟩:=ih h0 h1 ⟨s2,kv2,q0,q1,q2,q3,hs2,hk2⟩;exact⟨y,.kid (List.mem_of_getElem? hkk) hy,ey⟩
end Go.Proofs.YtafmbokfkbccaaaGreatDoor
namespace Go.Proofs.YtafmbokfkbccaaaGreatDoor
open Go.RowKit Go.Sort
def dU (B:Nat→Prop) (w:World) (v:Value) (l:List aj):Prop:=
 l.length≤1000∧∃a cap,v=.slice a l.length cap∧(l≠[]→∃b off,a=some ⟨b,off,none⟩∧B b∧b<w.heap.size∧∀i,i<l.length→w.cell? ⟨b,off+i*2,none⟩=some (.string (l.getD i aB).1)∧∃s,w.cell? ⟨b,off+i*2+1,none⟩=some s∧Strs w s (l.getD i aB).2∧∀k,(l.getD i aB).2≠[]→s.ownBlock=some k→B k)
theorem dU.nil (B:Nat→Prop) (w:World):dU B w (.slice none 0 0) []:=⟨by simp,none,0,rfl,fun h=>absurd rfl h⟩
theorem dU.facts {B:Nat→Prop} {w:World} {v:Value} {l:List aj} (h:dU B w v l):Facts w v l:=by
 obtain⟨h0,a,cap,rfl,h1⟩:=h;refine⟨by omega,a,cap,rfl,fun hl=> ?_⟩;obtain⟨b,off,rfl,_,hb,hc⟩:=h1 hl;refine⟨b,off,rfl,hb,fun i hi=> ?_⟩;obtain⟨c1,s,c2,c3,_⟩:=hc i hi;exact⟨c1,s,c2,c3⟩
theorem dU.kept {B:Nat→Prop} {w w':World} {v:Value} {l:List aj} (h:dU B w v l) (hs:w.heap.size≤w'.heap.size) (hk:∀k,k<w.heap.size→B k→w'.heap[k]?=w.heap[k]?):dU B w' v l:=by
 obtain⟨h0,a,cap,rfl,h1⟩:=h;refine⟨h0,a,cap,rfl,fun hl=> ?_⟩;obtain⟨b,off,rfl,hB,hb,hc⟩:=h1 hl;refine⟨b,off,rfl,hB,Nat.lt_of_lt_of_le hb hs,fun i hi=> ?_⟩;obtain⟨c1,s,c2,c3,c4⟩:=hc i hi;have e:=hk b hb hB;refine⟨by rw[World.cell?_of_block (w:=w) e];exact c1,s,by rw[World.cell?_of_block (w:=w) e];exact c2,?_,c4⟩
 by_cases hne:(l.getD i aB).2=[]
 ·rw[hne] at c3⊢;exact c3.nil
 ·exact c3.kept hs fun k e'=>hk k (c3.block_lt hne k e') (c4 k hne e')
theorem dU.below {B:Nat→Prop} {w w':World} {v:Value} {l:List aj} (h:dU B w v l) (k:Below w.heap.size w w'):dU B w' v l:=h.kept k.size fun i hi _=>k.block i hi
theorem dU.mono {B B':Nat→Prop} {w:World} {v:Value} {l:List aj} (h:dU B w v l) (hm:∀k,k<w.heap.size→B k→B' k):dU B' w v l:=by
 obtain⟨h0,a,cap,rfl,h1⟩:=h;refine⟨h0,a,cap,rfl,fun hl=> ?_⟩;obtain⟨b,off,rfl,hB,hb,hc⟩:=h1 hl;refine⟨b,off,rfl,hm b hb hB,hb,fun i hi=> ?_⟩;obtain⟨c1,s,c2,c3,c4⟩:=hc i hi;exact⟨c1,s,c2,c3,fun k hne e=>hm k (c3.block_lt hne k e) (c4 k hne e)⟩
theorem gT.Nu {base:Nat} {w:World} {v:Value} {l:List aj} (h:gT w base v l) (hl:l.length≤1000):dU (From base) w v l:=by
 obtain⟨xs,ho,hx⟩:=h;rcases ho.2 with⟨rfl,e⟩|⟨g,cap,cur,rfl,hbg,hg,_,_,hcs,htake⟩
 ·have:l=[]:=List.eq_nil_of_length_eq_zero e;subst this;exact dU.nil _ _
 ·refine⟨hl,_,cap,rfl,fun _=>⟨g,0,rfl,hbg,(Array.getElem?_eq_some_iff.1 hg).1,fun i hi=> ?_⟩⟩;obtain⟨c1,s,c2,c3,c4⟩:=hx i hi;have cellOf:∀j u,xs[j]?=some u→w.cell? ⟨g,0+j,none⟩=some u:=fun j u hu=>by
   have:=ho.cells (g:=g) rfl j u hu
   rwa [Addr.add_lit] at this
  exact⟨cellOf _ _ c1,s,by rw[Nat.add_assoc];exact cellOf _ _ c2,c3,fun k _ e=>(c4 k e).1⟩
end Go.Proofs.YtafmbokfkbccaaaGreatDoor
