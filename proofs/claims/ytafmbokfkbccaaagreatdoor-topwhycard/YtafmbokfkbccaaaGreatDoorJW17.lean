import Derived.Test.YtafmbokfkbccaaaGreatDoorJW16
import Derived.Test.YtafmbokfkbccaaaGreatDoorJW7
import Derived.Test.YtafmbokfkbccaaaGreatDoorJW5
import Derived.Test.YtafmbokfkbccaaaGreatDoorJW3
import Derived.Shelf.Strings.OnBuilder
import Derived.Shelf.Strings.BuilderK
import Derived.Shelf.Strconv.Clone
import Derived.Shelf.Strings.Cut
import Derived.Shelf.Strings.Prefix
import Derived.Test.YtafmbokfkbccaaaGreatDoorProg
namespace Go.Proofs.YtafmbokfkbccaaaGreatDoor
open Go.RowKit Go.Sort
theorem wH {a:aF} {f:aj} {l m:List aC} (h:dH a f l=some m):m.length≤l.length+a.terms.length:=by
 have hk:bH l=((bH l).map raw).map bs:=by
  rw[List.map_map]
  conv=>lhs;rw[←List.map_id (bH l)]
  exact List.map_congr_left fun x _=>(ko x).symm
 have h1:=congrArg List.length (iy hk h).2.1;have h2:=nS a.terms ((bH l).map raw);have e:∀q:List aC,(bH q).length=q.length:=fun q=>by unfold bH;rw[List.length_map]
 rw[e,List.length_map] at h1;rw[List.length_map,e] at h2;omega
theorem Ki {α:Type} {K:Kind α} {B:Nat→Prop} {w:World} {b off n cap:Nat} {x:α} {l:List α} (h:K.sl B w (.slice (some ⟨b,off,none⟩) n cap) (x::l)):K.sl B w (.slice (if cap=1 then some ⟨b,off,none⟩ else some ⟨b,off+K.size,none⟩) l.length (cap-1)) l:=by
 obtain⟨h0,a',cap',e,h1⟩:=h;simp only[Value.slice.injEq] at e;obtain⟨rfl,rfl,rfl⟩:=e;obtain⟨b',off',e,hB,hb,hcl⟩:=h1 (by simp);simp only[Option.some.injEq,Addr.mk.injEq] at e;obtain⟨rfl,rfl,_⟩:=e;have h01:=h0.1;have h02:(x::l).length≤cap:=h0.2;simp only[List.length_cons] at h01 h02;cases l with
 |nil=>exact K.iq _ _ _ _
 |cons y l=>
  simp only[List.length_cons] at h01 h02;rw[if_neg (by omega)];refine⟨⟨by simp only[List.length_cons];omega,by show(y::l).length≤cap-1;simp only[List.length_cons];omega⟩,_,cap-1,rfl,fun _=>⟨b,_,rfl,hB,hb,fun i z hi=> ?_⟩⟩;obtain⟨d,d1,d2⟩:=hcl (i+1) z (by simpa using hi);refine⟨d,d1,fun j u hu=> ?_⟩;have:=d2 j u hu;rw[show off+(i+1)*K.size+j=off+K.size+i*K.size+j by rw[Nat.add_mul];omega] at this;exact this
theorem Fv {a:aF} {as':List aF} {ks:List aj} {b:List aC} (h:a.no=true):dN (a::as') ks b=dN as' ks b:=by
 conv=>lhs;unfold dN
 rw[if_pos h]
theorem Dj {a:aF} {as':List aF} {b:List aC} (h:a.no=false):dN (a::as') [] b=(5,[]):=by
 unfold dN;rw[if_neg (by simp[h])]
theorem Dk {a:aF} {as':List aF} {k:aj} {ks:List aj} {b:List aC} (h:a.no=false) (hm:dH a k b=none):dN (a::as') (k::ks) b=(8,[]):=by
 unfold dN;rw[if_neg (by simp[h])];dsimp only;rw[hm]
theorem Dl {a:aF} {as':List aF} {k:aj} {ks:List aj} {b b':List aC} (h:a.no=false) (hm:dH a k b=some b'):dN (a::as') (k::ks) b=dN as' ks b':=by
 conv=>lhs;unfold dN
 rw[if_neg (by simp[h])];dsimp only;rw[hm]
set_option maxRecDepth 100000 in
set_option maxHeartbeats 8000000 in
theorem Dm (all:List aj) (r:aA) (x:bE) (n:Nat) (pv tv av hv bv xv:Value) (w:World) (hp:∃a n c,pv=.slice a n c) (ht:∃a n c,tv=.slice a n c) (ha:Facts w av all) (hr:fO all) (hh:dn.sl bU w hv r.head.terms) (hb:bP.sl bU w bv r.body) (hx:sN n bU w xv x)
  (h4:r.head.terms.length≤4) (h5:r.body.length≤5) (hbt:∀a∈r.body,a.terms.length≤4):
  Calls Tryz.prog 99 #[.agg #[pv,tv,av],.agg #[.bool r.head.no,.string (bs r.head.name),hv,bv],xv] w fun e w'=>e=.returned (.int .i64 (jk all r x.fact (x.kids.map bE.fact)))∧Later w w':=by
 obtain⟨s,kv,rfl,hs,hkv⟩:=hx;obtain⟨pa,pn,pc,rfl⟩:=hp;obtain⟨ta,tn,tc,rfl⟩:=ht;obtain⟨aa,ac,rfl⟩:=aD ha;obtain⟨sa,sc,rfl⟩:=Kind.slice hs;obtain⟨ka,kc,rfl⟩:=Kind.slice hkv;obtain⟨ha',hc',rfl⟩:=Kind.slice hh;obtain⟨ba,bc,rfl⟩:=Kind.slice hb;obtain⟨A,hA⟩:∃A,A=w.heap.size:=⟨_,rfl⟩;obtain⟨w1,hw1⟩:∃w1,w1=((w.alloc (.cells #[.slice pa pn pc,.slice ta tn tc,.slice aa all.length ac] 109)).alloc (.cells #[.bool r.head.no,.string (bs r.head.name),.slice ha' r.head.terms.length hc',.slice ba r.body.length bc] 87)).alloc (.cells #[.string x.fact.1,.slice sa x.fact.2.length sc,.int .i64 x.rule,.slice ka x.kids.length kc] 30):=⟨_,rfl⟩;have hL1:Later w w1:=by rw[hw1];exact(((Later.refl w).alloc _).alloc _).alloc _
 have hs1:w1.heap.size=w.heap.size+3:=by rw[hw1];simp
 have hr0:w1.heap[w.heap.size]?=some (.cells #[.slice pa pn pc,.slice ta tn tc,.slice aa all.length ac] 109 (0,0)):=by
  rw[hw1];simp only[bI,World.size_alloc]
  repeat (first|rw[if_pos trivial]|rw[if_pos (by omega)]|rw[if_neg (by omega)])
 have hr1:w1.heap[w.heap.size+1]?=some (.cells #[.bool r.head.no,.string (bs r.head.name),.slice ha' r.head.terms.length hc',.slice ba r.body.length bc] 87 (0,0)):=by
  rw[hw1];simp only[bI,World.size_alloc]
  repeat (first|rw[if_pos trivial]|rw[if_pos (by omega)]|rw[if_neg (by omega)])
 have hr2:w1.heap[w.heap.size+2]?=some (.cells #[.string x.fact.1,.slice sa x.fact.2.length sc,.int .i64 x.rule,.slice ka x.kids.length kc] 30 (0,0)):=by
  rw[hw1];simp only[bI,World.size_alloc]
  repeat (first|rw[if_pos trivial]|rw[if_pos (by omega)]|rw[if_neg (by omega)])
 have HMe:=hide (Hr r.head (.slice ha' r.head.terms.length hc') (.agg #[.string x.fact.1,.slice sa x.fact.2.length sc]) (.slice none 0 0) x.fact [] w1 (Kind.aH hh hL1) ⟨_,rfl,(qI hs).later hL1⟩ (Kind.iq _ _ _ _ _) (by simp;omega));have HBd:=hide (Kind.aH hb hL1);have HKv:=hide (Kind.aH hkv hL1);have HAl:=hide (ha.later hL1);have HRi:=hide hr;have HBT:=hide hbt;have HL1:=hide hL1;have HR0:=hide hr0;have HR1:=hide hr1;have HR2:=hide hr2;have NS:Hid (∀(b:List aC) (lv:Value) (w':World),Later w1 w'→bg.sl bU w' lv b→Calls Tryz.prog 176 #[.agg #[.slice pa pn pc,.slice ta tn tc,.slice aa all.length ac],.slice ba r.body.length bc,lv] w' fun e w''=>e=.returned (.int .i64 (Jr all r.body b))∧Later w' w''):=fun b lv w' h hl=>
  Kh all r.body b _ _ _ _ lv w' ⟨_,_,_,rfl⟩ ⟨_,_,_,rfl⟩ ((ha.later hL1).later h) hr (Kind.aH (Kind.aH hb hL1) h) hl
 obtain⟨RR,hRR⟩:∃RR:Int,RR=jk all r x.fact (x.kids.map bE.fact):=⟨_,rfl⟩;rw[←hRR];unfold jk at hRR;have HW1:=hide hw1;have a0:w1.cell? ⟨w.heap.size+1,0,none⟩=some (.bool r.head.no):=by rw[cell_of_row _ _ _ _ _ _ hr1];rfl
 have a1:w1.cell? ⟨w.heap.size+1,0+1,none⟩=some (.string (bs r.head.name)):=by rw[cell_of_row _ _ _ _ _ _ hr1];rfl
 have a2:w1.cell? ⟨w.heap.size+1,0+2,none⟩=some (.slice ha' r.head.terms.length hc'):=by rw[cell_of_row _ _ _ _ _ _ hr1];rfl
 have f0:w1.cell? ⟨w.heap.size+1+1,0,none⟩=some (.string x.fact.1):=by rw[show w.heap.size+1+1=w.heap.size+2 from rfl,cell_of_row _ _ _ _ _ _ hr2];rfl
 have f1:w1.cell? ⟨w.heap.size+1+1,0+1,none⟩=some (.slice sa x.fact.2.length sc):=by rw[show w.heap.size+1+1=w.heap.size+2 from rfl,cell_of_row _ _ _ _ _ _ hr2];rfl
 clear ha hr hh hb hs hkv hL1 hr0 hr1 hr2 hw1 hbt hA A;cases hm:dH r.head x.fact [] with
 |none=>
  rw[hm] at HMe hRR;dsimp only at hRR;simp only[Option.isSome_none] at HMe;have HRR:=hide hRR;clear hm hRR NS;obtain⟨⟨fn,aI⟩,rl,kids⟩:=x;dsimp only[bE.fact,bE.rule,bE.kids] at*;generalize bs r.head.name=nm at*;generalize r.head.no=no at*
  go_enter Tryz.func99,Tryz.ntmps99
  go_wp2_with (first|(rw[←HW1.out])|fail)
  refine HMe.out.mono ?_;rintro e w2 ⟨v2,rfl,hv2,hL2⟩;obtain rfl:v2=.slice none 0 0:=hv2;have HL2:=hide (HL1.out.trans hL2);clear hL2 HMe;go_wp2;go_ret;exact⟨by rw[HRR.out];rfl,HL2.out⟩
 |some b0=>
  rw[hm] at HMe hRR;dsimp only at hRR;simp only[Option.isSome_some] at HMe;have hb0:=wH hm;simp only[List.length_nil] at hb0;obtain⟨KG,hKG⟩:∃KG,KG=dN r.body (x.kids.map bE.fact) b0:=⟨_,rfl⟩;rw[←hKG] at hRR;have HKG:=hide hKG;have HRR:=hide hRR;clear hm hRR hKG;obtain⟨⟨fn,aI⟩,rl,kids⟩:=x;dsimp only[bE.fact,bE.rule,bE.kids] at*;obtain⟨hd,body⟩:=r;dsimp only at*;generalize bs hd.name=nm at*;generalize hd.no=no at*
  go_enter Tryz.func99,Tryz.ntmps99
  go_wp2_with (first|(rw[←HW1.out])|fail)
  refine HMe.out.mono ?_;rintro e w2 ⟨v2,rfl,hv2,hL2⟩;have Ms:bg.own 190 w1.heap.size w2 v2 b0:=hv2;have hb2:bg.sl bU w2 v2 b0:=Kind.dV (Kind.iw Ms (by omega));obtain⟨va,vn,vc,rfl⟩:∃a n c,v2=.slice a n c:=by obtain⟨a,c,e⟩:=Kind.slice hb2;exact⟨a,_,c,e⟩
  have HB2:=hide hb2;have HL2:=hide hL2;have hr2:=(hL2.block (by omega)).trans HR2.out;have hr1:=(hL2.block (by omega)).trans HR1.out;have k3:w2.cell? ⟨w.heap.size+1+1,3,none⟩=some (.slice ka kids.length kc):=by rw[show w.heap.size+1+1=w.heap.size+2 from rfl,cell_of_row _ _ _ _ _ _ hr2];rfl
  have k4:w2.cell? ⟨w.heap.size+1,3,none⟩=some (.slice ba body.length bc):=by rw[cell_of_row _ _ _ _ _ _ hr1];rfl
  have HK2:=hide (Kind.aH HKv.out hL2);have hbl:=HBd.out.1.1;clear hv2 Ms hb2 hL2 hr2 hr1 HMe a0 a1 a2 f0 f1 HW1;go_wp2;clear k3 k4
  go_loopg [7,9,27] body.length (fun g lv kv i wr=>∃(j:Nat) (b:List aC) (ks:List bE),j+g=body.length∧i=.int .i64 j∧Hid (bg.sl bU wr lv b)∧b.length≤4+4*j∧Hid ((ru n).sl bU wr kv ks)∧Hid (KG=dN (body.drop j) (ks.map bE.fact) b)∧Hid (Later w1 wr))
  case atStart=>exact⟨0,b0,kids,by omega,rfl,HB2,by omega,HK2,(by rw[List.drop_zero];exact HKG.out:_=_),HL2⟩
  case round=>
   clear HB2 HK2 HL2;obtain⟨j,b,ks,hj,rfl,HB,hbn,HK,HG,HL⟩:=hrel;obtain⟨la,lc,hlv⟩:=Kind.slice HB.out;obtain⟨qa,qc,hkv⟩:=Kind.slice HK.out;subst hlv;subst hkv
   by_cases hlt:j<body.length
   ·obtain⟨a,ha⟩:∃a,body[j]?=some a:=⟨_,List.getElem?_eq_getElem hlt⟩;obtain⟨b1,o1,_,e1,hb1,⟨xv,hce,htv⟩,hc⟩:=Kind.fQ HBd.out ha;subst e1;subst hce;have d0:wr.cell? ⟨b1,o1+j*3,none⟩=some (.bool a.no):=by rw[HL.out.cell (p:=⟨b1,o1+j*3,none⟩) hb1];simpa[bP] using hc 0 _ rfl
    have d1:wr.cell? ⟨b1,o1+j*3+1,none⟩=some (.string (bs a.name)):=by rw[HL.out.cell (p:=⟨b1,o1+j*3+1,none⟩) hb1];simpa[bP] using hc 1 _ rfl
    have d2:wr.cell? ⟨b1,o1+j*3+2,none⟩=some xv:=by rw[HL.out.cell (p:=⟨b1,o1+j*3+2,none⟩) hb1];simpa[bP] using hc 2 _ rfl
    obtain⟨xa,xc,rfl⟩:=Kind.slice htv;have hdr:body.drop j=a::body.drop (j+1):=by
     obtain⟨hi,e⟩:=List.getElem?_eq_some_iff.1 ha;rw[List.drop_eq_getElem_cons hi,e]
    have hat:=HBT.out a (List.mem_of_getElem? ha);have hg:=HG.out;rw[hdr] at hg;obtain⟨wa,hwa⟩:∃wa,wa=wr.alloc (.cells #[.bool a.no,.string (bs a.name),.slice xa a.terms.length xc] 85):=⟨_,rfl⟩;have hLa:Later wr wa:=by rw[hwa];exact(Later.refl wr).alloc _
    have hRa:wa.heap[wr.heap.size]?=some (.cells #[.bool a.no,.string (bs a.name),.slice xa a.terms.length xc] 85 (0,0)):=by rw[hwa];exact heap_alloc_new wr _
    obtain⟨c0,c1,c2,hla⟩:=EO hRa;have hLA:=HL.out.trans hLa;have HTa:=hide (Kind.aH htv hLA);have HLa:=hide hLA;have HWa:=hide hwa;have HRa:=hide hRa;have HBa:=hide (Kind.aH HB.out hLa);have HKa:=hide (Kind.aH HK.out hLa);clear hc ha htv hwa hLa hRa hLA HB HK HL HG hdr;cases hno:a.no with
    |true=>
     rw[Fv hno] at hg;rw[hno] at d0 HWa c0;have HG2:=hide hg;clear hno hg;generalize bs a.name=nm2 at*
     go_wp2_with (rw[←HWa.out])
     go_roundg (body.length- (j+1))
     case measure=>omega
     case rel=>exact⟨j+1,b,ks,by omega,by go_num,HBa,by omega,HKa,HG2,HLa⟩
    |false=>
     rw[hno] at d0 HWa c0 HRa;cases ks with
     |nil=>
      rw[List.map_nil,Dj hno] at hg;have HE:Hid (RR=5):=by show _=_;rw[HRR.out,hg];rfl
      clear hno hg;generalize bs a.name=nm2 at*
      go_wp2_with (rw[←HWa.out])
      go_ret;exact⟨by rw[HE.out];rfl,HL1.out.trans HLa.out⟩
     |cons k ks=>
      rw[List.map_cons] at hg;cases n with
      |zero=>
       obtain⟨c,hc⟩:=BN HKa.out (x:=k) (by simp);exact hc.elim
      |succ m=>
      obtain⟨b2,o2,s2,kv2,e2,hb2,_,q0,q1,_,_,hs2,_⟩:=yL HKa.out (i:=0) (x:=k) rfl;simp only[Value.slice.injEq] at e2;obtain⟨rfl,_,_⟩:=e2;simp only[Nat.zero_mul,Nat.add_zero] at q0 q1;obtain⟨sa2,sc2,rfl⟩:=Kind.slice hs2;have HTl:=hide (Ki HKa.out);have hqc:(k::ks).length≤qc:=HKa.out.1.2;simp only[List.length_cons] at hqc;have HMe:Hid (∀w',Later wa w'→Calls Tryz.prog 175 #[.agg #[.bool false,.string (bs a.name),.slice xa a.terms.length xc],.agg #[.string k.fact.1,.slice sa2 k.fact.2.length sc2],.slice la b.length lc] w' fun e w''=>∃v,e=.returned (.tuple #[v,.bool (dH a k.fact b).isSome])∧NP w' w'' v (dH a k.fact b)∧Hid (Later w' w'')):=fun w' h=>by
       have:=Hr a (.slice xa a.terms.length xc) (.agg #[.string k.fact.1,.slice sa2 k.fact.2.length sc2]) (.slice la b.length lc) k.fact b w' (Kind.aH HTa.out h) ⟨_,rfl,(qI hs2).later h⟩ (Kind.aH HBa.out h) (by omega);rw[hno] at this;exact this
      have HSc:Hid (∀w',Later wa w'→(w'.cell? ⟨wr.heap.size,0,none⟩=some (.bool false)∧w'.cell? ⟨wr.heap.size,0+1,none⟩=some (.string (bs a.name))∧w'.cell? ⟨wr.heap.size,0+2,none⟩=some (.slice xa a.terms.length xc))∧w'.cell? ⟨b2,o2,none⟩=some (.string k.fact.1)∧w'.cell? ⟨b2,o2+1,none⟩=some (.slice sa2 k.fact.2.length sc2)):=fun w' h=>by
       have hra:=(h.block hla).trans HRa.out;refine⟨⟨?_,?_,?_⟩,?_,?_⟩
       ·rw[cell_of_row _ _ _ _ _ _ hra];rfl
       ·rw[cell_of_row _ _ _ _ _ _ hra];rfl
       ·rw[cell_of_row _ _ _ _ _ _ hra];rfl
       ·rw[h.cell (p:=⟨b2,o2,none⟩) hb2];exact q0
       ·rw[h.cell (p:=⟨b2,o2+1,none⟩) hb2];exact q1
      obtain⟨o,ho⟩:∃o,o=dH a k.fact b:=⟨_,rfl⟩;rw[←ho] at HMe;have HO:=hide ho;have HNo:=hide hno;have HGk:=hide hg;obtain⟨⟨kn,Kj⟩,krl,kk⟩:=k;dsimp only[bE.fact,bE.rule,bE.kids] at*;clear hno hg ho hs2 q0 q1 HKa;generalize bs a.name=nm2 at*;have hlp:(0:Int)<((ks.length+1:Nat):Int):=by omega
      have hl1:(1:Int)≤((ks.length+1:Nat):Int):=by omega
      have hle:(((ks.length+1:Nat):Int)==0)=false:=by simp;omega
      go_wp2_with (rw[←HWa.out])
      refine wp_region_held_drew (S:=fun w'=>Later wa w') (by kernel_rfl) (Later.refl wa).drew (fun hHeld=> ?_);refine au (i:=0) (d:=some 37) (v:= ?_) rfl rfl hHeld ?_ ?_;rotate_left;focus intro w hSw;(try dsimp only at hSw);obtain⟨⟨p0,p1,p2⟩,p3,p4⟩:=HSc.out _ hSw;go_simp;try with_reducible rfl
      simp only[aZ,bf,aze,asu];refine au (i:=1) (d:=some 38) (v:= ?_) rfl rfl hHeld ?_ ?_;rotate_left;focus intro w hSw;(try dsimp only at hSw);go_simp;try with_reducible rfl
      simp only[aZ,bf,aze,asu];refine au (i:=2) (d:=some 39) (v:= ?_) rfl rfl hHeld ?_ ?_;rotate_left;focus intro w hSw;(try dsimp only at hSw);go_simp;try with_reducible rfl
      simp only[aZ,bf,aze,asu];refine au (i:=3) (d:=some 40) (v:= ?_) rfl rfl hHeld ?_ ?_;rotate_left;focus intro w hSw;(try dsimp only at hSw);go_simp;try with_reducible rfl
      simp only[aZ,bf,aze,asu];refine au (i:=4) (d:=some 41) (v:= ?_) rfl rfl hHeld ?_ ?_;rotate_left;focus intro w hSw;(try dsimp only at hSw);obtain⟨⟨p0,p1,p2⟩,p3,p4⟩:=HSc.out _ hSw;go_simp;try with_reducible rfl
      simp only[aZ,bf,aze,asu];refine au (i:=5) (d:=some 42) (v:= ?_) rfl rfl hHeld ?_ ?_;rotate_left;focus intro w hSw;(try dsimp only at hSw);go_simp;try with_reducible rfl
      simp only[aZ,bf,aze,asu];refine wpAnyH_ready (rs:=[6]) (by kernel_rfl) (by simp) ?_;refine AllReadyH.cons rfl (fun K hK=> ?_) AllReadyH.nil;go_simp;refine(HMe.out _ hHeld).mono ?_;rintro e w4 ⟨v4,rfl,hv4,hL4⟩;have hL4':=hHeld.trans hL4.out;have SI:∃a n c,v4=.slice a n c:=by
       cases o with
       |none=>exact⟨_,_,_,hv4⟩
       |some m=>obtain⟨a,c,e⟩:=Kind.bY (K:=bg) hv4;exact⟨a,_,c,e⟩
      obtain⟨a4,n4,c4,rfl⟩:=SI;refine hK.out _ _ hL4' (fun hHeld=> ?_);clear hK K;refine au (i:=7) (d:=some 36) (v:= ?_) rfl rfl hHeld ?_ ?_;rotate_left;focus intro w hSw;(try dsimp only at hSw);go_simp;try with_reducible rfl
      simp only[aZ,bf,aze,asu];refine au (i:=8) (d:=some 44) (v:= ?_) rfl rfl hHeld ?_ ?_;rotate_left;focus intro w hSw;(try dsimp only at hSw);go_simp;try with_reducible rfl
      simp only[aZ,bf,aze,asu];refine au (i:=9) (d:=some 45) (v:= ?_) rfl rfl hHeld ?_ ?_;rotate_left;focus intro w hSw;(try dsimp only at hSw);go_simp;try with_reducible rfl
      simp only[aZ,bf,aze,asu];refine au (i:=10) (d:=some 7) (v:= ?_) rfl rfl hHeld ?_ ?_;rotate_left;focus intro w hSw;(try dsimp only at hSw);go_simp;try with_reducible rfl
      simp only[aZ,bf,aze,asu];refine au (i:=11) (d:=some 8) (v:= ?_) rfl rfl hHeld ?_ ?_;rotate_left;focus intro w hSw;(try dsimp only at hSw);go_simp;try with_reducible rfl
      simp only[aZ,bf,aze,asu];refine wpAnyH_done (by kernel_rfl) ?_ _;clear hHeld;cases o with
      |none=>
       have HE:Hid (RR=8):=by
        show _=_;have:=HGk.out;rw[Dk HNo.out HO.out.symm] at this;rw[HRR.out,this];rfl
       have HL4:=hide (HL1.out.trans (HLa.out.trans hL4'));simp only[Option.isSome_none];clear hL4 hL4' hv4 HMe HSc HGk HO HRR;go_wp2;go_ret;exact⟨by rw[HE.out];rfl,HL4.out⟩
      |some b4=>
       have Qy:bg.own 190 wa.drew.heap.size w4 (.slice a4 n4 c4) b4:=hv4;have hb4:=wH HO.out.symm;have hs4:bg.sl bU w4 (.slice a4 n4 c4) b4:=Kind.dV (Kind.iw Qy (by omega));have HG4:Hid (KG=dN (body.drop (j+1)) (ks.map bE.fact) b4):=by
        show _=_;have:=HGk.out;rw[Dl HNo.out HO.out.symm] at this;exact this
       have HS4:=hide hs4;have HL4:=hide (HLa.out.trans hL4');obtain⟨ta4,SK⟩:∃z,(if qc=1 then some (⟨b2,o2,none⟩:Addr) else some ⟨b2,o2+4,none⟩)=z:=⟨_,rfl⟩;have HT4:Hid ((ru (m+1)).sl bU w4 (.slice ta4 ks.length (qc-1)) ks):=by
        show Kind.sl _ _ _ _ _;rw[←SK];exact Kind.aH HTl.out hL4'
       have SL:b4.length≤4+4*(j+1):=by omega
       simp only[Option.isSome_some];clear hL4 hL4' hv4 Qy hs4 HMe HSc HGk HO HTl hb4 HBa;go_wp2
       go_roundg (body.length- (j+1))
       case measure=>omega
       case rel=>exact⟨j+1,b4,ks,by omega,by go_num,HS4,SL,HT4,HG4,HL4⟩
   ·have hg:=HG.out;rw[List.drop_eq_nil_of_le (by omega)] at hg;cases ks with
    |cons k ks=>
     have HE:Hid (RR=5):=by
      show _=_;rw[HRR.out,hg];rfl
     have hlp:(0:Int)<((ks.length+1:Nat):Int):=by omega
     clear hg HG HB HK NS;simp only[List.length_cons] at*;go_wp2;go_ret;exact⟨by rw[HE.out];rfl,HL1.out.trans HL.out⟩
    |nil=>
     have HE:Hid (RR=Jr all body b):=by
      show _=_;rw[HRR.out,hg];rfl
     have HBr:=hide (NS.out b _ wr HL.out HB.out);have hr0:=(HL.out.block (by omega)).trans HR0.out;have hr1:=(HL.out.block (by omega)).trans HR1.out;have g0:wr.cell? ⟨w.heap.size,0,none⟩=some (.slice pa pn pc):=by rw[cell_of_row _ _ _ _ _ _ hr0];rfl
     have g1:wr.cell? ⟨w.heap.size,0+1,none⟩=some (.slice ta tn tc):=by rw[cell_of_row _ _ _ _ _ _ hr0];rfl
     have g2:wr.cell? ⟨w.heap.size,0+2,none⟩=some (.slice aa all.length ac):=by rw[cell_of_row _ _ _ _ _ _ hr0];rfl
     have g3:wr.cell? ⟨w.heap.size+1,3,none⟩=some (.slice ba body.length bc):=by rw[cell_of_row _ _ _ _ _ _ hr1];rfl
     clear hg HG HB HK NS hr0 hr1;generalize Jr all body b=BE at*
     go_wp2_with fail
     refine HBr.out.mono ?_;rintro e w5 ⟨rfl,hL5⟩;have HL5:=hide (HL1.out.trans (HL.out.trans hL5));clear hL5 HBr;go_wp2;go_ret;exact⟨by rw[HE.out];rfl,HL5.out⟩
end Go.Proofs.YtafmbokfkbccaaaGreatDoor
namespace Go.Proofs.YtafmbokfkbccaaaGreatDoor
open Go.RowKit Go.Sort
theorem yO {n:Nat} {B:Nat→Prop} {w:World} {v:Value} {l:List bE} (h:(ru n).sl B w v l) (hl:l≠[]):∃m,n=m+1:=by
 cases n with
 |succ m=>exact⟨m,rfl⟩
 |zero=>
  cases l with
  |nil=>exact absurd rfl hl
  |cons x l=>
   obtain⟨c,hc⟩:=BN h (x:=x) (by simp);exact hc.elim
theorem Az {g:bE→Int}:∀{l:List bE} {j:Nat} {x:bE},l[j]?=some x→kr g (l.drop j)=if g x≠0 then g x else kr g (l.drop (j+1)):=fun {l j x} h=>by
 obtain⟨hi,e⟩:=List.getElem?_eq_some_iff.1 h;rw[List.drop_eq_getElem_cons hi,e]
 rfl
theorem AA {p:List aA} {told all:List aj} {n:Nat} {f:aj} {rl:Int} {kids:List bE} (h1:rl= -1) (h2:kids=[]) (h3:inB told f=true):eD p told all (n+1) (.mk f rl kids)=0:=by
 subst h1 h2;unfold eD;show(if(-1:Int)<0 then(if(-1:Int)= -1∧([]:List bE)=[]∧inB told f=true then(0:Int) else 6) else _)=0;rw[if_pos (by decide),if_pos ⟨rfl,rfl,h3⟩]
theorem oo {p:List aA} {told all:List aj} {n:Nat} {f:aj} {rl:Int} {kids:List bE} (h:rl<0) (h1:¬(rl= -1∧kids=[]∧inB told f=true)):eD p told all (n+1) (.mk f rl kids)=6:=by
 unfold eD;show(if rl<0 then(if rl= -1∧kids=[]∧inB told f=true then(0:Int) else 6) else _)=6;rw[if_pos h,if_neg h1]
theorem AB {p:List aA} {told all:List aj} {n i:Nat} {f:aj} {kids:List bE} (h:p[i]?=none):eD p told all (n+1) (.mk f (i:Int) kids)=1:=by
 unfold eD;show(if(i:Int)<0 then _ else match p[((i:Int)).toNat]? with|none=>(1:Int)|some r=>_)=1;rw[if_neg (by omega),Int.toNat_natCast,h]
theorem AJ {p:List aA} {told all:List aj} {n i:Nat} {f:aj} {kids:List bE} {r:aA} (h:p[i]?=some r):eD p told all (n+1) (.mk f (i:Int) kids)=if jk all r f (kids.map bE.fact)≠0 then jk all r f (kids.map bE.fact) else kr (eD p told all n) kids:=by
 conv=>lhs;unfold eD
 show(if(i:Int)<0 then _ else match p[((i:Int)).toNat]? with|none=>(1:Int)|some r=>if jk all r f (kids.map bE.fact)≠0 then jk all r f (kids.map bE.fact) else kr (eD p told all n) kids)=_;rw[if_neg (by omega),Int.toNat_natCast,h]
set_option maxRecDepth 100000 in
set_option maxHeartbeats 8000000 in
theorem Fw (p:List aA) (told all:List aj) (hsh:∀r∈p,r.head.terms.length≤4∧r.body.length≤5∧∀a∈r.body,a.terms.length≤4) (hpl:p.length≤16) (hrt:fO told) (hra:fO all):
  ∀(n:Nat) (x:bE) (pv tv av xv:Value) (w:World),fB.sl bU w pv p→Facts w tv told→Facts w av all→sN n bU w xv x→
  Calls Tryz.prog 55 #[.agg #[pv,tv,av],xv] w fun e w'=>e=.returned (.int .i64 (eD p told all (n+1) x))∧Later w w'
 |n,x,pv,tv,av,xv,w,hp,ht,ha,hx=>by
  have IH:∀m,n=m+1→∀(k:bE) (kv:Value) (w':World),Later w w'→sN m bU w' kv k→Calls Tryz.prog 55 #[.agg #[pv,tv,av],kv] w' fun e w''=>e=.returned (.int .i64 (eD p told all n k))∧Later w' w'':=fun m hm k kv w' hL hk=>by
   have:=Fw p told all hsh hpl hrt hra m k pv tv av kv w' (Kind.aH hp hL) (ht.later hL) (ha.later hL) hk;rw[hm];exact this
  obtain⟨s,kv,rfl,hs,hkv⟩:=hx;obtain⟨pa,pc,rfl⟩:=Kind.slice hp;obtain⟨ta,tc,rfl⟩:=aD ht;obtain⟨aa,ac,rfl⟩:=aD ha;obtain⟨sa,sc,rfl⟩:=Kind.slice hs;obtain⟨ka,kc,rfl⟩:=Kind.slice hkv;have hkl:=hkv.1.1;obtain⟨w1,hw1⟩:∃w1,w1=(w.alloc (.cells #[.slice pa p.length pc,.slice ta told.length tc,.slice aa all.length ac] 109)).alloc (.cells #[.string x.fact.1,.slice sa x.fact.2.length sc,.int .i64 x.rule,.slice ka x.kids.length kc] 30):=⟨_,rfl⟩;have hL1:Later w w1:=by rw[hw1];exact((Later.refl w).alloc _).alloc _
  have hs1:w1.heap.size=w.heap.size+2:=by rw[hw1];simp
  have hr0:w1.heap[w.heap.size]?=some (.cells #[.slice pa p.length pc,.slice ta told.length tc,.slice aa all.length ac] 109 (0,0)):=by
   rw[hw1];simp only[bI,World.size_alloc]
   repeat (first|rw[if_pos trivial]|rw[if_pos (by omega)]|rw[if_neg (by omega)])
  have hr1:w1.heap[w.heap.size+1]?=some (.cells #[.string x.fact.1,.slice sa x.fact.2.length sc,.int .i64 x.rule,.slice ka x.kids.length kc] 30 (0,0)):=by
   rw[hw1];simp only[bI,World.size_alloc]
   repeat (first|rw[if_pos trivial]|rw[if_pos (by omega)]|rw[if_neg (by omega)])
  have HIn:=hide (inC (.slice ta told.length tc) (.agg #[.string x.fact.1,.slice sa x.fact.2.length sc]) told x.fact w1 (ht.later hL1) ⟨_,rfl,(qI hs).later hL1⟩ hrt);have HIH:=hide IH;have HSt:Hid (∀(r:aA) (hv bv:Value) (w':World),r∈p→Later w1 w'→dn.sl bU w' hv r.head.terms→bP.sl bU w' bv r.body→Calls Tryz.prog 99 #[.agg #[.slice pa p.length pc,.slice ta told.length tc,.slice aa all.length ac],.agg #[.bool r.head.no,.string (bs r.head.name),hv,bv],.agg #[.string x.fact.1,.slice sa x.fact.2.length sc,.int .i64 x.rule,.slice ka x.kids.length kc]] w' fun e w''=>e=.returned (.int .i64 (jk all r x.fact (x.kids.map bE.fact)))∧Later w' w''):=fun r hv bv w' hr h h1 h2=>
   Dm all r x n _ _ _ hv bv _ w' ⟨_,_,_,rfl⟩ ⟨_,_,_,rfl⟩ ((ha.later hL1).later h) hra h1 h2 ⟨_,_,rfl,Kind.aH (Kind.aH hs hL1) h,Kind.aH (Kind.aH hkv hL1) h⟩ (hsh r hr).1 (hsh r hr).2.1 (hsh r hr).2.2
  have HPv:=hide (Kind.aH hp hL1);have HKv:=hide (Kind.aH hkv hL1);have HL1:=hide hL1;have HR0:=hide hr0;have HR1:=hide hr1;have HW1:=hide hw1;have HC:Hid (∀w',Later w1 w'→(w'.cell? ⟨w.heap.size,0,none⟩=some (.slice pa p.length pc)∧w'.cell? ⟨w.heap.size,0+1,none⟩=some (.slice ta told.length tc)∧w'.cell? ⟨w.heap.size,0+2,none⟩=some (.slice aa all.length ac))∧
    (w'.cell? ⟨w.heap.size+1,0,none⟩=some (.string x.fact.1)∧w'.cell? ⟨w.heap.size+1,0+1,none⟩=some (.slice sa x.fact.2.length sc)∧w'.cell? ⟨w.heap.size+1,0+2,none⟩=some (.int .i64 x.rule)∧w'.cell? ⟨w.heap.size+1,0+3,none⟩=some (.slice ka x.kids.length kc))∧w'.cell? ⟨w.heap.size,1,none⟩=some (.slice ta told.length tc)∧w'.cell? ⟨w.heap.size+1,2,none⟩=some (.int .i64 x.rule)∧w'.cell? ⟨w.heap.size+1,3,none⟩=some (.slice ka x.kids.length kc)):=fun w' h=>by
   have h0:=(h.block (by omega)).trans hr0;have h1:=(h.block (by omega)).trans hr1;refine⟨⟨?_,?_,?_⟩,⟨?_,?_,?_,?_⟩,?_,?_,?_⟩
   ·rw[cell_of_row _ _ _ _ _ _ h0];rfl
   ·rw[cell_of_row _ _ _ _ _ _ h0];rfl
   ·rw[cell_of_row _ _ _ _ _ _ h0];rfl
   ·rw[cell_of_row _ _ _ _ _ _ h1];rfl
   ·rw[cell_of_row _ _ _ _ _ _ h1];rfl
   ·rw[cell_of_row _ _ _ _ _ _ h1];rfl
   ·rw[cell_of_row _ _ _ _ _ _ h1];rfl
   ·rw[cell_of_row _ _ _ _ _ _ h0];rfl
   ·rw[cell_of_row _ _ _ _ _ _ h1];rfl
   ·rw[cell_of_row _ _ _ _ _ _ h1];rfl
  obtain⟨RR,hRR⟩:∃RR:Int,RR=eD p told all (n+1) x:=⟨_,rfl⟩;rw[←hRR];obtain⟨⟨g0,g1,g2⟩,⟨x0,x1,x2,x3⟩,v1,v2,v3⟩:=HC.out w1 (Later.refl _);clear hp ht ha hs hkv hL1 hr0 hr1 hw1 IH;obtain⟨⟨fn,aI⟩,rl,kids⟩:=x;dsimp only[bE.fact,bE.rule,bE.kids] at*
  by_cases hneg:rl<0
  ·rw[tu] at HIn
   by_cases h1:rl= -1
   ·by_cases h2:kids=[]
    ·have hz:decide (0<kids.length)=false:=by rw[h2];rfl
     cases hi:inB told (fn,aI) with
     |true=>
      rw[AA h1 h2 hi] at hRR;rw[hi] at HIn;have HE:=hide hRR;subst h1;clear hRR hi h2 HSt HIH
      go_enter Tryz.func55,Tryz.ntmps55
      go_wp2_with (first|(rw[←HW1.out])|fail)
      refine HIn.out.mono ?_;rintro e w2 ⟨rfl,hL2⟩;have HL2:=hide (HL1.out.trans hL2);clear hL2 HIn;go_wp2;go_ret;exact⟨by rw[HE.out];rfl,HL2.out⟩
     |false=>
      rw[oo hneg (by rw[hi];simp)] at hRR;rw[hi] at HIn;have HE:=hide hRR;subst h1;clear hRR hi h2 HSt HIH
      go_enter Tryz.func55,Tryz.ntmps55
      go_wp2_with (first|(rw[←HW1.out])|fail)
      refine HIn.out.mono ?_;rintro e w2 ⟨rfl,hL2⟩;have HL2:=hide (HL1.out.trans hL2);clear hL2 HIn;go_wp2;go_ret;exact⟨by rw[HE.out];rfl,HL2.out⟩
    ·have hz:decide (0<kids.length)=true:=decide_eq_true (List.length_pos_iff.2 h2);rw[oo hneg (fun h=>h2 h.2.1)] at hRR;have HE:=hide hRR;subst h1;clear hRR h2 HSt HIH HIn
     go_enter Tryz.func55,Tryz.ntmps55
     go_wp2_with (first|(rw[←HW1.out])|fail)
     go_ret;exact⟨by rw[HE.out];rfl,HL1.out⟩
   ·have hq:(rl != -1)=true:=by simpa using h1
    rw[oo hneg (fun h=>h1 h.1)] at hRR;have HE:=hide hRR;clear hRR h1 HSt HIH HIn
    go_enter Tryz.func55,Tryz.ntmps55
    go_wp2_with (first|(rw[←HW1.out])|fail)
    go_ret;exact⟨by rw[HE.out];rfl,HL1.out⟩
  ·obtain⟨i,hi⟩:∃i:Nat,rl=(i:Int):=⟨rl.toNat,by omega⟩;subst hi
   by_cases hge:p.length≤i
   ·have hgi:((p.length:Int)≤(i:Int)):=by omega
    rw[AB (List.getElem?_eq_none hge)] at hRR;have HE:=hide hRR;clear hRR HSt HIH HIn hge
    go_enter Tryz.func55,Tryz.ntmps55
    go_wp2_with (first|(rw[←HW1.out])|fail)
    go_ret;exact⟨by rw[HE.out];rfl,HL1.out⟩
   ·have hgi:¬((p.length:Int)≤(i:Int)):=by omega
    obtain⟨r,hr⟩:∃r,p[i]?=some r:=⟨_,List.getElem?_eq_getElem (by omega)⟩;rw[AJ hr] at hRR;obtain⟨b1,o1,_,e1,hb1,hri,hc⟩:=Kind.fQ HPv.out hr;subst e1;obtain⟨hv,bv,hce,hhv,hbv⟩:=hri;subst hce;obtain⟨ha',hc',rfl⟩:=Kind.slice hhv;obtain⟨ba,bc,rfl⟩:=Kind.slice hbv;have HRc:Hid (∀w',Later w1 w'→w'.cell? ⟨b1,o1+i*4,none⟩=some (.bool r.head.no)∧w'.cell? ⟨b1,o1+i*4+1,none⟩=some (.string (bs r.head.name))∧w'.cell? ⟨b1,o1+i*4+2,none⟩=some (.slice ha' r.head.terms.length hc')∧w'.cell? ⟨b1,o1+i*4+3,none⟩=some (.slice ba r.body.length bc)):=fun w' h=>
     ⟨by rw[h.cell (p:=⟨b1,o1+i*4,none⟩) hb1];simpa[fB] using hc 0 _ rfl,by rw[h.cell (p:=⟨b1,o1+i*4+1,none⟩) hb1];simpa[fB] using hc 1 _ rfl,by rw[h.cell (p:=⟨b1,o1+i*4+2,none⟩) hb1];simpa[fB] using hc 2 _ rfl,by rw[h.cell (p:=⟨b1,o1+i*4+3,none⟩) hb1];simpa[fB] using hc 3 _ rfl⟩
    have HS:Hid (∀w',Later w1 w'→_):=fun w' h=>HSt.out r (.slice ha' r.head.terms.length hc') (.slice ba r.body.length bc) w' (List.mem_of_getElem? hr) h (Kind.aH hhv h) (Kind.aH hbv h);obtain⟨SE,hSE⟩:∃SE,SE=jk all r (fn,aI) (kids.map bE.fact):=⟨_,rfl⟩;rw[←hSE] at hRR HS;have HRR:=hide hRR;have hil:(i:Int)<(p.length:Int):=by omega
    have Ul:i<p.length:=by omega
    have h0i:(0:Int)≤(i:Int):=by omega
    clear hRR hr hc hhv hbv HSt HIn hSE;generalize bs r.head.name=nm at*;generalize r.head.no=no at*
    go_enter Tryz.func55,Tryz.ntmps55
    go_wp2_with (first|(rw[←HW1.out])|fail)
    refine wp_region_held_drew (S:=fun w'=>Later w1 w') (by kernel_rfl) (Later.refl w1).drew (fun hHeld=> ?_);refine au (i:=0) (d:=some 35) (v:= ?_) rfl rfl hHeld ?_ ?_;rotate_left;focus intro w hSw;(try dsimp only at hSw);obtain⟨⟨p0,p1,p2⟩,⟨p3,p4,p5,p6⟩,p7,p8,p9⟩:=HC.out _ hSw;go_simp;try with_reducible rfl
    simp only[aZ,bf,aze,asu];refine au (i:=1) (d:=some 36) (v:= ?_) rfl rfl hHeld ?_ ?_;rotate_left;focus intro w hSw;(try dsimp only at hSw);go_simp;try with_reducible rfl
    simp only[aZ,bf,aze,asu];refine au (i:=2) (d:=some 37) (v:= ?_) rfl rfl hHeld ?_ ?_;rotate_left;focus intro w hSw;(try dsimp only at hSw);obtain⟨⟨p0,p1,p2⟩,⟨p3,p4,p5,p6⟩,p7,p8,p9⟩:=HC.out _ hSw;go_simp;try with_reducible rfl
    simp only[aZ,bf,aze,asu];refine au (i:=3) (d:=some 38) (v:= ?_) rfl rfl hHeld ?_ ?_;rotate_left;focus intro w hSw;(try dsimp only at hSw);go_simp;try with_reducible rfl
    simp only[aZ,bf,aze,asu];refine au (i:=4) (d:=some 39) (v:= ?_) rfl rfl hHeld ?_ ?_;rotate_left;focus intro w hSw;(try dsimp only at hSw);obtain⟨⟨p0,p1,p2⟩,⟨p3,p4,p5,p6⟩,p7,p8,p9⟩:=HC.out _ hSw;go_simp;try with_reducible rfl
    simp only[aZ,bf,aze,asu];refine au (i:=5) (d:=some 40) (v:= ?_) rfl rfl hHeld ?_ ?_;rotate_left;focus intro w hSw;(try dsimp only at hSw);go_simp;try with_reducible rfl
    simp only[aZ,bf,aze,asu];refine au (i:=6) (d:=some 41) (v:= ?_) rfl rfl hHeld ?_ ?_;rotate_left;focus intro w hSw;(try dsimp only at hSw);obtain⟨p0,p1,p2,p3⟩:=HRc.out _ hSw;go_simp;try with_reducible rfl
    simp only[aZ,bf,aze,asu];refine au (i:=7) (d:=some 42) (v:= ?_) rfl rfl hHeld ?_ ?_;rotate_left;focus intro w hSw;(try dsimp only at hSw);obtain⟨⟨p0,p1,p2⟩,⟨p3,p4,p5,p6⟩,p7,p8,p9⟩:=HC.out _ hSw;go_simp;try with_reducible rfl
    simp only[aZ,bf,aze,asu];refine wpAnyH_ready (rs:=[8]) (by kernel_rfl) (by simp) ?_;refine AllReadyH.cons rfl (fun K hK=> ?_) AllReadyH.nil;go_simp;refine(HS.out _ hHeld).mono ?_;rintro e w2 ⟨rfl,hL2⟩;have hL2':=hHeld.trans hL2;refine hK.out _ _ hL2' (fun hHeld=> ?_);clear hK K;refine au (i:=9) (d:=some 5) (v:= ?_) rfl rfl hHeld ?_ ?_;rotate_left;focus intro w hSw;(try dsimp only at hSw);go_simp;try with_reducible rfl
    simp only[aZ,bf,aze,asu];refine wpAnyH_done (by kernel_rfl) ?_ _;clear hHeld hL2;have HL2:=hide hL2'
    by_cases h0:SE=0
    ·have HE:Hid (RR=kr (eD p told all n) kids):=by show _=_;rw[HRR.out,if_neg (by rw[h0];simp)]
     subst h0;have y3':w2.cell? ⟨w.heap.size+1,3,none⟩=some (.slice ka kids.length kc):=(HC.out _ hL2').2.2.2.2;clear hL2' HRR HS;go_wp2;clear y3'
     go_loopg [50] kids.length (fun g i wr=>∃j:Nat,j+g=kids.length∧i=.int .i64 j∧Hid (RR=kr (eD p told all n) (kids.drop j))∧Hid (Later w1 wr))
     case atStart=>exact⟨0,by omega,rfl,HE,HL2⟩
     case round=>
      clear HE HL2;obtain⟨j,hj,rfl,HE,HL⟩:=hrel
      by_cases hlt:j<kids.length
      ·obtain⟨k,hk⟩:∃k,kids[j]?=some k:=⟨_,List.getElem?_eq_getElem hlt⟩;obtain⟨m,hm⟩:=yO HKv.out (by intro e;rw[e] at hlt;simp at hlt);have hKv:=HKv.out;rw[hm] at hKv;obtain⟨b2,o2,s2,kv2,e2,hb2,_,q0,q1,q2,q3,hs2,hk2⟩:=yL hKv hk;simp only[Value.slice.injEq] at e2;obtain⟨rfl,_,_⟩:=e2;obtain⟨sa2,sc2,rfl⟩:=Kind.slice hs2;obtain⟨ka2,kc2,rfl⟩:=Kind.slice hk2;have d0:wr.cell? ⟨b2,o2+j*4,none⟩=some (.string k.fact.1):=by rw[HL.out.cell (p:=⟨b2,o2+j*4,none⟩) hb2];exact q0
       have d1:wr.cell? ⟨b2,o2+j*4+1,none⟩=some (.slice sa2 k.fact.2.length sc2):=by rw[HL.out.cell (p:=⟨b2,o2+j*4+1,none⟩) hb2];exact q1
       have d2:wr.cell? ⟨b2,o2+j*4+2,none⟩=some (.int .i64 k.rule):=by rw[HL.out.cell (p:=⟨b2,o2+j*4+2,none⟩) hb2];exact q2
       have d3:wr.cell? ⟨b2,o2+j*4+3,none⟩=some (.slice ka2 k.kids.length kc2):=by rw[HL.out.cell (p:=⟨b2,o2+j*4+3,none⟩) hb2];exact q3
       obtain⟨wk,hwk⟩:∃wk,wk=wr.alloc (.cells #[.string k.fact.1,.slice sa2 k.fact.2.length sc2,.int .i64 k.rule,.slice ka2 k.kids.length kc2] 30):=⟨_,rfl⟩;have hLk:Later wr wk:=by rw[hwk];exact(Later.refl wr).alloc _
       have hRk:wk.heap[wr.heap.size]?=some (.cells #[.string k.fact.1,.slice sa2 k.fact.2.length sc2,.int .i64 k.rule,.slice ka2 k.kids.length kc2] 30 (0,0)):=by rw[hwk];exact heap_alloc_new wr _
       have hLK:=HL.out.trans hLk;have k0:wk.cell? ⟨wr.heap.size,0,none⟩=some (.string k.fact.1):=by rw[cell_of_row _ _ _ _ _ _ hRk];rfl
       have k1:wk.cell? ⟨wr.heap.size,0+1,none⟩=some (.slice sa2 k.fact.2.length sc2):=by rw[cell_of_row _ _ _ _ _ _ hRk];rfl
       have k2:wk.cell? ⟨wr.heap.size,0+2,none⟩=some (.int .i64 k.rule):=by rw[cell_of_row _ _ _ _ _ _ hRk];rfl
       have k3:wk.cell? ⟨wr.heap.size,0+3,none⟩=some (.slice ka2 k.kids.length kc2):=by rw[cell_of_row _ _ _ _ _ _ hRk];rfl
       obtain⟨⟨z0,z1,z2⟩,_⟩:=HC.out wk hLK;have HCl:=hide (HIH.out m hm k (.agg #[.string k.fact.1,.slice sa2 k.fact.2.length sc2,.int .i64 k.rule,.slice ka2 k.kids.length kc2]) wk (HL1.out.trans hLK) ⟨_,_,rfl,Kind.aH hs2 hLK,Kind.aH hk2 hLK⟩);have hfd:=Az (g:=eD p told all n) hk;have HLK:=hide hLK;have HWk:=hide hwk;obtain⟨G,hG⟩:∃G,G=eD p told all n k:=⟨_,rfl⟩;rw[←hG] at HCl hfd;have HFd:=hide hfd;obtain⟨⟨kn,Kj⟩,krl,kk⟩:=k;dsimp only[bE.fact,bE.rule,bE.kids] at*;clear hk hKv q0 q1 q2 q3 hs2 hk2 hwk hLk hRk hLK hfd hG hm
       go_wp2_with (first|(rw[←HWk.out])|fail)
       refine HCl.out.mono ?_;rintro e w3 ⟨rfl,hL3⟩;have HL3:=hide (HLK.out.trans hL3);clear hL3 HCl d0 d1 d2 d3 k0 k1 k2 k3 z0 z1 z2
       by_cases hG0:G=0
       ·have HE2:Hid (RR=kr (eD p told all n) (kids.drop (j+1))):=by show _=_;rw[HE.out,HFd.out,if_neg (by rw[hG0];simp)]
        subst hG0;clear HFd HE;go_wp2
        go_roundg (kids.length- (j+1))
        case measure=>omega
        case rel=>exact⟨j+1,by omega,by go_num,HE2,HL3⟩
       ·have hq:(G != 0)=true:=by simpa using hG0
        have HE2:Hid (RR=G):=by show _=_;rw[HE.out,HFd.out,if_pos hG0]
        clear HFd HE hG0;go_wp2;go_ret;exact⟨by rw[HE2.out];rfl,HL1.out.trans HL3.out⟩
      ·have HE2:Hid (RR=0):=by show _=_;rw[HE.out,List.drop_eq_nil_of_le (by omega)];rfl
       clear HE;go_wp2;go_ret;exact⟨by rw[HE2.out];rfl,HL1.out.trans HL.out⟩
    ·have hq:(SE != 0)=true:=by simpa using h0
     have HE:Hid (RR=SE):=by show _=_;rw[HRR.out,if_pos h0]
     clear hL2' HRR HS h0;go_wp2;go_ret;exact⟨by rw[HE.out];rfl,HL1.out.trans HL2.out⟩
end Go.Proofs.YtafmbokfkbccaaaGreatDoor
namespace Go.Proofs.YtafmbokfkbccaaaGreatDoor
open Go.RowKit Go.Sort
theorem rD {s:ByteArray} (h:isNamed (raw s)=true):s.size≤12:=by
 unfold isNamed at h;simp only[Bool.and_eq_true,decide_eq_true_eq] at h;rw[bq] at h;exact h.1.1
theorem gY {f:aj}:gI f=0↔gV f:=by
 unfold gI gV;rw[kG]
 constructor
 ·intro h;split at h
  ·simp at h
  ·rename_i h1;split at h
   ·simp at h
   ·rename_i h2;split at h
    ·simp at h
    ·rename_i h3;refine⟨by simpa using h1,by omega,fun s hs=> ?_⟩;cases e:isNamed (raw s) with
     |true=>rfl
     |false=>
      exfalso
      refine h3 ?_;unfold iG;rw[List.drop_zero,List.any_eq_true];exact⟨s,hs,by rw[kG,e];rfl⟩
 ·rintro⟨h1,h2,h3⟩;rw[if_neg (by simp[h1]),if_neg (by omega),if_neg];intro h;unfold iG at h;rw[List.drop_zero,List.any_eq_true] at h;obtain⟨s,hs,hn⟩:=h;rw[kG,h3 s hs] at hn;cases hn
end Go.Proofs.YtafmbokfkbccaaaGreatDoor
namespace Go.Proofs
open Go.Shelf
def Tryz.lays169_ren:Go.Shelf.Ren:=⟨fun|169=>231|n=>n,fun|70=>295|9=>9|0=>0|72=>297|37=>48|127=>330|3=>3|5=>5|n=>n,fun|n=>n⟩
theorem Tryz.lays169:Go.Proofs.Lays.n169 Tryz.prog Tryz.lays169_ren:={
 mixed:=by kernel_rfl
 f169:=Tryz.func231.trans (congrArg some (by kernel_rfl))
 t0:=Tryz.underlying0
 a0:=Tryz.isAgg0
 z0:=Tryz.sizeOf0
 v0:=Tryz.zeroValue0
 t3:=Tryz.underlying3
 a3:=Tryz.isAgg3
 z3:=Tryz.sizeOf3
 v3:=Tryz.zeroValue3
 t9:=Tryz.underlying9
 a9:=Tryz.isAgg9
 z9:=Tryz.sizeOf9
 v9:=Tryz.zeroValue9
 t37:=Tryz.underlying48
 a37:=Tryz.isAgg48
 z37:=Tryz.sizeOf48
 v37:=Tryz.zeroValue48
 t70:=Tryz.underlying295
 a70:=Tryz.isAgg295
 z70:=Tryz.sizeOf295
 v70:=Tryz.zeroValue295
 t72:=Tryz.underlying297
 a72:=Tryz.isAgg297
 z72:=Tryz.sizeOf297
 v72:=Tryz.zeroValue297
 t127:=Tryz.underlying330
 a127:=Tryz.isAgg330
 z127:=Tryz.sizeOf330
 v127:=Tryz.zeroValue330}
theorem Tryz.Builder_Extra_169:Builder.Extra Tryz.prog Tryz.lays169_ren:={
 sizeBuilder:=by kernel_rfl
 liesBuilder:=by kernel_rfl
 t5:=Tryz.underlying5
 a5:=Tryz.isAgg5
 z5:=Tryz.sizeOf5
 v5:=Tryz.zeroValue5
 infoByte:=by kernel_rfl
 cellsByte:=by kernel_rfl
 sizeByte:=by kernel_rfl
 neB5:=by decide}
open Go.RowKit in
theorem Tryz.Builder_String_any_k (B b:Nat) (l:List UInt8) (w:World) (h:Lib.IsBuilderF 297 5 B b (Lib.byteCells l) w) (hBw:B≤w.heap.size):
  Calls Tryz.prog 231 #[.pointer (some ⟨b,0,none⟩)] w fun e w'=>e=.returned (.string ⟨l.toArray⟩)∧(Lib.IsBuilderF 297 5 B b (Lib.byteCells l) w'∧Below B w w'∧Lib.OthersKept 5 (some b) w w'):=Any.Builder_String_any_k Tryz.lays169 Tryz.Builder_Extra_169 B b l w h hBw
def Tryz.laysM316_ren:Go.Shelf.Ren:=⟨fun|316=>342|n=>n,fun|9=>9|3=>3|4=>4|37=>48|0=>0|127=>330|5=>5|n=>n,fun|n=>n⟩
theorem Tryz.laysM316:Go.Proofs.LaysM.n316 Tryz.prog Tryz.laysM316_ren:={
 mixed:=by kernel_rfl
 f316:=Tryz.func342.trans (congrArg some (by kernel_rfl))
 t0:=Tryz.underlying0
 a0:=Tryz.isAgg0
 z0:=Tryz.sizeOf0
 v0:=Tryz.zeroValue0
 t3:=Tryz.underlying3
 a3:=Tryz.isAgg3
 z3:=Tryz.sizeOf3
 v3:=Tryz.zeroValue3
 t4:=Tryz.underlying4
 a4:=Tryz.isAgg4
 z4:=Tryz.sizeOf4
 v4:=Tryz.zeroValue4
 t9:=Tryz.underlying9
 a9:=Tryz.isAgg9
 z9:=Tryz.sizeOf9
 v9:=Tryz.zeroValue9
 t37:=Tryz.underlying48
 a37:=Tryz.isAgg48
 z37:=Tryz.sizeOf48
 v37:=Tryz.zeroValue48
 t127:=Tryz.underlying330
 a127:=Tryz.isAgg330
 z127:=Tryz.sizeOf330
 v127:=Tryz.zeroValue330
 t5:=Tryz.underlying5
 a5:=Tryz.isAgg5
 z5:=Tryz.sizeOf5
 v5:=Tryz.zeroValue5
 i0:=by kernel_rfl
 i3:=by kernel_rfl
 i4:=by kernel_rfl
 i5:=by kernel_rfl
 i9:=by kernel_rfl
 i37:=by kernel_rfl
 i127:=by kernel_rfl}
open Go.RowKit in
theorem Tryz.stringslite_Clone (s:ByteArray) (w:World) (hlim:s.size≤281474976710656):
  Calls Tryz.prog 342 #[.string s] w fun e w'=>e=.returned (.string s)∧Below w.heap.size w w':=Any.stringslite_Clone Tryz.laysM316 s w hlim
def Tryz.lays145_ren:Go.Shelf.Ren:=⟨fun|145=>299|220=>331|219=>344|217=>351|225=>352|224=>353|267=>354|266=>357|314=>358|n=>n,fun|9=>9|4=>4|59=>355|3=>3|5=>5|46=>202|146=>398|51=>343|n=>n,fun|1=>1|n=>n⟩
theorem Tryz.lays145:Go.Proofs.Lays.n145 Tryz.prog Tryz.lays145_ren:={
 mixed:=by kernel_rfl
 f145:=Tryz.func299.trans (congrArg some (by kernel_rfl))
 f217:=Tryz.func351.trans (congrArg some (by kernel_rfl))
 f219:=Tryz.func344.trans (congrArg some (by kernel_rfl))
 f220:=Tryz.func331.trans (congrArg some (by kernel_rfl))
 f224:=Tryz.func353.trans (congrArg some (by kernel_rfl))
 f225:=Tryz.func352.trans (congrArg some (by kernel_rfl))
 f266:=Tryz.func357.trans (congrArg some (by kernel_rfl))
 f267:=Tryz.func354.trans (congrArg some (by kernel_rfl))
 f314:=Tryz.func358.trans (congrArg some (by kernel_rfl))
 t3:=Tryz.underlying3
 a3:=Tryz.isAgg3
 z3:=Tryz.sizeOf3
 v3:=Tryz.zeroValue3
 t4:=Tryz.underlying4
 a4:=Tryz.isAgg4
 z4:=Tryz.sizeOf4
 v4:=Tryz.zeroValue4
 t5:=Tryz.underlying5
 a5:=Tryz.isAgg5
 z5:=Tryz.sizeOf5
 v5:=Tryz.zeroValue5
 t9:=Tryz.underlying9
 a9:=Tryz.isAgg9
 z9:=Tryz.sizeOf9
 v9:=Tryz.zeroValue9
 t46:=Tryz.underlying202
 a46:=Tryz.isAgg202
 z46:=Tryz.sizeOf202
 v46:=Tryz.zeroValue202
 t51:=Tryz.underlying343
 a51:=Tryz.isAgg343
 z51:=Tryz.sizeOf343
 v51:=Tryz.zeroValue343
 t59:=Tryz.underlying355
 a59:=Tryz.isAgg355
 z59:=Tryz.sizeOf355
 v59:=Tryz.zeroValue355
 t146:=Tryz.underlying398
 a146:=Tryz.isAgg398
 z146:=Tryz.sizeOf398
 v146:=Tryz.zeroValue398
 g1:=by kernel_rfl}
open Go.RowKit Go.Lib in
theorem Tryz.strings_Cut (s sep:ByteArray) (m:Int) (w:World) (hs:s.size<4294967281) (hm:w.cell? ⟨1,0,none⟩=some (.int .i64 m)):
  Calls Tryz.prog 299 #[.string s,.string sep] w fun e w'=>e=.returned (.tuple #[.string ⟨(Lib.cut s.data.toList sep.data.toList).1.toArray⟩,.string ⟨(Lib.cut s.data.toList sep.data.toList).2.1.toArray⟩,.bool (Lib.cut s.data.toList sep.data.toList).2.2])∧∃n,w'=w.drewN n:=Any.strings_Cut Tryz.lays145 s sep m w hs hm
def Tryz.lays99_ren:Go.Shelf.Ren:=⟨fun|99=>277|206=>322|n=>n,fun|9=>9|4=>4|3=>3|n=>n,fun|n=>n⟩
theorem Tryz.lays99:Go.Proofs.Lays.n99 Tryz.prog Tryz.lays99_ren:={
 mixed:=by kernel_rfl
 f99:=Tryz.func277.trans (congrArg some (by kernel_rfl))
 f206:=Tryz.func322.trans (congrArg some (by kernel_rfl))
 t3:=Tryz.underlying3
 a3:=Tryz.isAgg3
 z3:=Tryz.sizeOf3
 v3:=Tryz.zeroValue3
 t4:=Tryz.underlying4
 a4:=Tryz.isAgg4
 z4:=Tryz.sizeOf4
 v4:=Tryz.zeroValue4
 t9:=Tryz.underlying9
 a9:=Tryz.isAgg9
 z9:=Tryz.sizeOf9
 v9:=Tryz.zeroValue9}
open Go.RowKit Go.Lib in
theorem Tryz.strings_HasPrefix (s p:ByteArray) (w:World):
  Calls Tryz.prog 277 #[.string s,.string p] w fun e w'=>e=.returned (.bool (Lib.hasPrefix s.data.toList p.data.toList))∧w'=w:=Any.strings_HasPrefix Tryz.lays99 s p w
end Go.Proofs
