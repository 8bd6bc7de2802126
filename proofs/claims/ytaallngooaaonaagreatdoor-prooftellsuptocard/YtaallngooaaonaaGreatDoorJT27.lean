import Derived.Test.YtaallngooaaonaaGreatDoorJT26
import Derived.Test.YtaallngooaaonaaGreatDoorJT13
import Derived.Test.YtaallngooaaonaaGreatDoorJT23
import Derived.Defers
import Derived.Recover
open Go.RowKit Go.Sort
set_option maxHeartbeats 4000000
set_option maxRecDepth 100000
namespace Go.Proofs.YtaallngooaaonaaGreatDoor
theorem Oj (A:Nat) (l:List aA) (f:aA) (lv:Value) (s:Value) (w:World) (hc0:w.cell? ⟨A,0,none⟩=some (.string f.1)) (hc1:w.cell? ⟨A,0+1,none⟩=some s) (hs:Strs w s f.2) (hl:Facts w lv l) (hr:fP l):
  Calls Tryz.prog 126 #[lv,.pointer (some ⟨A,0,none⟩)] w fun e w'=>e=.returned (.bool (inB l f))∧ak w w':=by
 have hin:=inC lv (.agg #[.string f.1,s]) l f w hl ⟨_,rfl,hs⟩ hr;rw[qL] at hin;have HIn:=au hin;obtain⟨sa,sc,rfl⟩:=bA hs;obtain⟨la,lc,rfl⟩:=aF hl;obtain⟨fn,aH⟩:=f;dsimp only at*;clear hin hs hl;generalize inB l (fn,aH)=b at*
 go_enter Tryz.func126,Tryz.ntmps126
 go_wp2_with fail
 refine HIn.out.mono ?_;rintro e w2 ⟨rfl,hL2⟩;have HL2:=au hL2;clear hL2 HIn;go_wp2;go_ret;exact⟨rfl,HL2.out⟩
theorem Lc {PS:List (List aA)} {f:aA} {j:Nat} {l:List aA} (hj:PS[j]?=some l) (hl:inB l f=true) (hn:∀t q,t<j→PS[t]?=some q→inB q f=false):dJ PS f=j:=by unfold dJ;obtain⟨hi,e⟩:=List.getElem?_eq_some_iff.1 hj;rw[List.findIdx_eq hi];refine⟨by rw[e];exact hl,fun t ht=>?_⟩;exact hn t _ ht (List.getElem?_eq_getElem (by omega))
theorem I7 (A lo:Nat) (PS:List (List aA)) (xs:List Value) (f:aA) (sv s:Value) (w:World) (hR:nL lo w sv xs) (hxl:xs.length=PS.length) (hx:∀(i:Nat) u l,xs[i]?=some u→PS[i]?=some l→Facts w u l) (hr:∀l∈PS,fP l)
  (hc0:w.cell? ⟨A,0,none⟩=some (.string f.1)) (hc1:w.cell? ⟨A,0+1,none⟩=some s) (hs:Strs w s f.2) (hf:dJ PS f<PS.length) (hsm:PS.length≤1000000):
  Calls Tryz.prog 125 #[sv,.func (.func 126) #[] #[.pointer (some ⟨A,0,none⟩)]] w fun e w'=>e=.returned (.int .i64 (dJ PS f:Nat))∧ak w w':=by
 have hAl:A<w.heap.size:=World.block_lt_of_cell? w _ hc0;have HBe:Hid (∀(l:List aA) (lv:Value) (w':World),ak w w'→Facts w lv l→fP l→Calls Tryz.prog 126 #[lv,.pointer (some ⟨A,0,none⟩)] w' fun e w''=>e=.returned (.bool (inB l f))∧ak w' w''):=fun l lv w' h hl hrl=>
  Oj A l f lv s w' (by rw[h.cell (p:=⟨A,0,none⟩) hAl];exact hc0) (by rw[h.cell (p:=⟨A,0+1,none⟩) hAl];exact hc1) (hs.later h) (hl.later h) hrl
 have HX:=au hx;have HR:=au hr;have Pk:=au hR.owns;obtain⟨g,cap,cur,rfl,hlo,hg,hnc,_⟩:=hR;have hgl:g<w.heap.size:=(Array.getElem?_eq_some_iff.1 hg).1;have V5:Hid (∀j l,PS[j]?=some l→inB l f=true→(∀t q,t<j→PS[t]?=some q→inB q f=false)→dJ PS f=j):=fun j l h1 h2 h3=>Lc h1 h2 h3;have QG:Hid (∃l,PS[dJ PS f]?=some l∧inB l f=true):=by refine⟨_,List.getElem?_eq_getElem hf,?_⟩;exact List.findIdx_getElem (w:=hf)
 obtain⟨oi,hoi⟩:∃oi,oi=dJ PS f:=⟨_,rfl⟩;rw[←hoi] at hf V5 QG⊢;have HXL:=au hxl;rw[hxl] at hnc⊢;clear hx hr hc0 hc1 hs hg hoi hxl
 go_enter Tryz.func125,Tryz.ntmps125
 go_wp2
 go_loopg [8] PS.length (fun g' i wr=>∃j:Nat,j+g'=PS.length∧i=.int .i64 j∧Hid (∀t q,t<j→PS[t]?=some q→inB q f=false)∧Hid (ak w wr))
 case atStart=>exact⟨0,by omega,rfl,(fun t q h=>absurd h (Nat.not_lt_zero _)),ak.refl _⟩
 obtain⟨j,hj,rfl,HN,HW⟩:=hrel
 by_cases hlt:j<PS.length
 ·obtain⟨l,hl⟩:∃l,PS[j]?=some l:=⟨_,List.getElem?_eq_getElem hlt⟩;obtain⟨u,hu⟩:∃u,xs[j]?=some u:=⟨_,List.getElem?_eq_getElem (by have:=HXL.out;omega)⟩;have hF:=HX.out j u l hu hl;have hcell:=Pk.out.cells (g:=g) rfl j u hu;rw[Addr.add_lit] at hcell;have d0:wr.cell? ⟨g,j,none⟩=some u:=by rw[HW.out.cell (p:=⟨g,j,none⟩) hgl];simpa using hcell
  have HC:=au (HBe.out l u wr HW.out hF (HR.out l (List.mem_of_getElem? hl)));obtain⟨ua,uc,rfl⟩:=aF hF;cases hin:inB l f with
  |true=>
   have HE:Hid (oi=j):=V5.out j l hl hin HN.out;rw[hin] at HC;clear hl hu hF hcell hin
   go_wp2_with fail
   refine HC.out.mono ?_;rintro e w2 ⟨rfl,hL2⟩;have HL2:=au (HW.out.trans hL2);clear hL2 HC;go_wp2;go_ret;exact⟨by rw[HE.out];rfl,HL2.out⟩
  |false=>
   have HN2:Hid (∀t q,t<j+1→PS[t]?=some q→inB q f=false):=fun t q ht hq=>by
    by_cases e:t=j
    ·subst e;rw[hl] at hq;cases hq;exact hin
    exact HN.out t q (by omega) hq
   rw[hin] at HC;clear hl hu hF hcell hin
   go_wp2_with fail
   refine HC.out.mono ?_;rintro e w2 ⟨rfl,hL2⟩;have HL2:=au (HW.out.trans hL2);clear hL2 HC;go_wp2
   go_roundg (PS.length- (j+1))
   case measure=>omega
   case rel=>exact⟨j+1,by omega,by go_num,HN2,HL2⟩
 exfalso
 obtain⟨l,h1,h2⟩:=QG.out;have:=HN.out oi l (by omega) h1;rw[h2] at this;cases this
theorem Ol (P lo:Nat) (pv tv fv:Value) (c d:Int) (mb:Nat) (all:List aA) (PS:List (List aA)) (f:aA) (w:World) (hS:PrS w P lo pv tv c d mb all PS) (hr:∀l∈PS,fP l) (hf:dD w fv f) (ho:dJ PS f<PS.length) (ho1:1≤dJ PS f) (hsm:PS.length≤1000000):
  Calls Tryz.prog 97 #[.pointer (some ⟨P,0,none⟩),fv] w fun e w'=>∃v',e=.returned v'∧Facts w' v' (PS.getD (dJ PS f-1) [])∧ak w w':=by
 obtain⟨av,sv,xs,hB,hRp,hF,hxl,hx⟩:=hS.has;have hR:nL lo w sv xs:=by
  rcases hRp with⟨e,_⟩|h;·rw[e] at hxl;simp at hxl;omega
  exact h
 obtain⟨s,rfl,hs⟩:=hf;obtain⟨sa,sc,rfl⟩:=bA hs;obtain⟨w1,hw1⟩:∃w1,w1=w.alloc (.cells #[.string f.1,.slice sa f.2.length sc] 27):=⟨_,rfl⟩;have hL1:ak w w1:=by rw[hw1];exact(ak.refl w).alloc _
 have hr1:w1.heap[w.heap.size]?=some (.cells #[.string f.1,.slice sa f.2.length sc] 27 (0,0)):=by rw[hw1];exact heap_alloc_new w _
 have hR1:nL lo w1 sv xs:=hR.block fun k hk _=>hL1.block hk;have HIx:=au (I7 w.heap.size lo PS xs f sv (.slice sa f.2.length sc) w1 hR1 hxl (fun i u l hu hl=>(hx i u l hu hl).later hL1) hr (by rw[cell_of_row _ _ _ _ _ _ hr1];rfl) (by rw[cell_of_row _ _ _ _ _ _ hr1];rfl) (hs.later hL1) ho hsm);obtain⟨oi,hoi⟩:∃oi,oi=dJ PS f:=⟨_,rfl⟩;rw[←hoi] at HIx ho ho1⊢;obtain⟨k,hko⟩:∃k,oi=k+1:=⟨oi-1,by omega⟩;obtain⟨l,hl⟩:∃l,PS[k]?=some l:=⟨_,List.getElem?_eq_getElem (by omega)⟩;obtain⟨u,hu⟩:∃u,xs[k]?=some u:=⟨_,List.getElem?_eq_getElem (by omega)⟩;have hgd:PS.getD (oi-1) []=l:=by rw[hko,Nat.add_sub_cancel,List.getD_eq_getElem?_getD,hl];rfl
 rw[hgd];have hFu:=hx k u l hu hl;have p5:w1.cell? ⟨P,5,none⟩=some sv:=((hB.below hL1.below).cells).2.2.2.2.2.1;have HP5:Hid (∀w',ak w1 w'→w'.cell? ⟨P,5,none⟩=some sv):=fun w' h=>(((hB.below hL1.below).below h.below).cells).2.2.2.2.2.1;have hown:=hR1.owns;obtain⟨g,cap,cur,rfl,hlo,hg,hnc,_⟩:=hR1;have hgl:g<w1.heap.size:=(Array.getElem?_eq_some_iff.1 hg).1;have hcell:=hown.cells (g:=g) rfl k u hu;rw[Addr.add_lit] at hcell;have HC:Hid (∀w',ak w1 w'→w'.cell? ⟨g,k,none⟩=some u):=fun w' h=>by rw[h.cell (p:=⟨g,k,none⟩) hgl];simpa using hcell
 obtain⟨ua,uc,rfl⟩:=aF hFu;have HFu:Hid (Facts w1 (.slice ua l.length uc) l):=hFu.later hL1;have HL1:=au hL1;have HW1:=au hw1;have hmf:∀(fn:Fn) (first cap:Array Value) (w:World),(Instr.makeFunc fn first cap).run Tryz.prog w=.ok (.func fn first cap) w:=fun _ _ _ _=>rfl;have hsub:IntKind.i64.wrap ((oi:Int)-1)=(k:Int):=by rw[IntKind.wrap_i64];omega
 rw[hxl] at HIx HP5 p5;obtain⟨np,hnp⟩:∃np,np=PS.length:=⟨_,rfl⟩;have hkx:(k:Int)<(np:Int):=by omega
 have ZY:k<np:=by omega
 rw[←hnp] at HIx HP5 p5;obtain⟨fn,aH⟩:=f;dsimp only at*;clear hS hB hRp hF hx hR hs hr1 hl hu hgd hFu hown hg hcell hoi hw1 hL1 hko hxl hnp ho ho1 hsm hnc hr
 go_enter Tryz.func97,Tryz.ntmps97
 go_wp2_with (first|(rw[←HW1.out])|fail)
 refine HIx.out.mono ?_;rintro e w2 ⟨rfl,hL2⟩;have q5:=HP5.out w2 hL2;have qk:=HC.out w2 hL2;have HF2:=au (HFu.out.later hL2);have HL2:=au (HL1.out.trans hL2);clear hL2 HIx p5;go_wp2;go_ret;exact⟨_,rfl,HF2.out,HL2.out⟩
theorem rQ {g:aG→Option (List aA)} {p:List aG} {j:Nat} {r:aG} (h:p[j]?=some r):iw g j (p.drop j)=match g r with|some of=>((j:Int),of)|none=>iw g (j+1) (p.drop (j+1)):=by
 obtain⟨hi,e⟩:=List.getElem?_eq_some_iff.1 h;rw[List.drop_eq_getElem_cons hi,e]
 rfl
theorem Fv {w:World} {b:Nat} {x:Int} {a:Option Addr} {n c:Nat} {t:TypeId} {fr:Nat×Nat} (h:w.heap[b]?=some (.cells #[.int .i64 x,.slice a n c] t fr)):pW w b:=fun off s e=>by rw[cell_of_row _ _ _ _ _ _ h] at e;rcases off with _|_|off <;> simp at e
theorem Cr {w:World} {b:Nat} {x:Int} {a:Option Addr} {n c:Nat} (h:w.heap[b]?=some (.cells #[.int .i64 x,.slice a n c] 96 (0,0))) (y:Int) (a':Option Addr) (n' c':Nat):
  ((w.setCell ⟨b,0,none⟩ (.int .i64 y)).setCell ⟨b,1,none⟩ (.slice a' n' c')).heap[b]?=some (.cells #[.int .i64 y,.slice a' n' c'] 96 (0,0))∧Tn b w ((w.setCell ⟨b,0,none⟩ (.int .i64 y)).setCell ⟨b,1,none⟩ (.slice a' n' c')):=by
 refine⟨by rw[dz (j:=1) (dz (j:=0) h _) _];rfl,?_⟩;exact Tn.setCell (p:=b) (Tn.setCell (p:=b) (Tn.refl _ _) (x:=⟨b,0,none⟩) (Or.inl rfl) _) (x:=⟨b,1,none⟩) (Or.inl rfl) _
theorem Ua (p:List aG) (told all:List aA) (PS:List (List aA)) (f:aA) (P lo:Nat) (pv tv fv:Value) (c d:Int) (mb:Nat) (w:World) (hS:PrS w P lo pv tv c d mb all PS) (hpv:eP.sl bf w pv p) (ht:Facts w tv told) (hrt:fP told) (hr:∀l∈PS,fP l) (hf:dD w fv f)
  (ho:inB told f=false→1≤dJ PS f∧dJ PS f<PS.length) (hsm:PS.length≤1000000) (hsh:∀r∈p,r.head.terms.length≤4∧r.body.length≤5∧∀a∈r.body,a.terms.length≤4) (hpl:p.length≤16):
  Calls Tryz.prog 69 #[.pointer (some ⟨P,0,none⟩),fv] w fun e w'=>∃v,e=.returned (.agg #[.int .i64 (mQ (jv all) p told all PS f).1,v])∧eX (From w.heap.size) w' v (mQ (jv all) p told all PS f).2∧Below w.heap.size w w':=by
 obtain⟨s,rfl,hs⟩:=hf;obtain⟨sa,sc,rfl⟩:=bA hs;obtain⟨pa,pc,rfl⟩:=aB.slice hpv;obtain⟨ta,tc,rfl⟩:=aF ht;obtain⟨w1,hw1⟩:∃w1,w1=(w.alloc (.cells #[.string f.1,.slice sa f.2.length sc] 27)).alloc (.cells #[.int .i64 0,.slice none 0 0] 96):=⟨_,rfl⟩;have hL1:ak w w1:=by rw[hw1];exact((ak.refl w).alloc _).alloc _
 have hs1:w1.heap.size=w.heap.size+2:=by rw[hw1];simp
 have hr0:w1.heap[w.heap.size]?=some (.cells #[.string f.1,.slice sa f.2.length sc] 27 (0,0)):=by
  rw[hw1];simp only[bV,World.size_alloc]
  repeat (first|rw[if_pos trivial]|rw[if_pos (by omega)]|rw[if_neg (by omega)])
 have hr1:w1.heap[w.heap.size+1]?=some (.cells #[.int .i64 0,.slice none 0 0] 96 (0,0)):=by
  rw[hw1];simp only[bV,World.size_alloc]
  repeat (first|rw[if_pos trivial]|rw[if_pos (by omega)]|rw[if_neg (by omega)])
 have HFV:Hid (∀w',Below w.heap.size w w'→dD w' (.agg #[.string f.1,.slice sa f.2.length sc]) f):=fun w' h=>⟨_,rfl,hs.below h⟩;have HS:=au hS;have HPv:=au hpv;have HTo:=au ht;have HRt:=au hrt;have HRs:=au hr;have HSh:=au hsh;have HL1:=au hL1;have HR0:=au hr0;have HR1:=au hr1;have HW1:=au hw1;have HCe:Hid (∀w',Below w1.heap.size w1 w'→(w'.cell? ⟨P,0,none⟩=some (.slice pa p.length pc)∧w'.cell? ⟨P,1,none⟩=some (.slice ta told.length tc))∧w'.cell? ⟨w.heap.size,0,none⟩=some (.string f.1)∧w'.cell? ⟨w.heap.size,0+1,none⟩=some (.slice sa f.2.length sc)):=fun w' h=>by obtain⟨av,sv,xs,hB,_⟩:=((hS.below hL1.below).below h).has;have h0:=(h.block _ (by omega)).trans hr0;exact⟨⟨hB.cells.1,hB.cells.2.1⟩,by rw[cell_of_row _ _ _ _ _ _ h0];rfl,by rw[cell_of_row _ _ _ _ _ _ h0];rfl⟩
 have HIn:Hid (∀w',Below w1.heap.size w1 w'→Calls Tryz.prog 20 #[.slice ta told.length tc,.agg #[.string f.1,.slice sa f.2.length sc]] w' fun e w''=>e=.returned (.bool (inB told f))∧Hid (ak w' w'')):=fun w' h=>by have hh:=aj hL1.below h hL1.size;have:=inC (.slice ta told.length tc) (.agg #[.string f.1,.slice sa f.2.length sc]) told f w' (ht.below hh) ⟨_,rfl,hs.below hh⟩ hrt;rw[qL] at this;exact this
 obtain⟨W,hW⟩:∃W,W=mQ (jv all) p told all PS f:=⟨_,rfl⟩;rw[←hW];unfold mQ at hW;have HWy:=au hW;have HOo:=au ho;clear hS hpv ht hrt hr hs ho hsh hL1 hr0 hr1 hw1 hW;have fin:∀(y:Int) (a':Option Addr) (n' c':Nat) (of:List aA) (wr:World),Below w1.heap.size w1 wr→eX (From w1.heap.size) wr (.slice a' n' c') of→(((wr.setCell ⟨w.heap.size+1,0,none⟩ (.int .i64 y)).setCell ⟨w.heap.size+1,1,none⟩ (.slice a' n' c')).cell? ⟨w.heap.size+1,0,none⟩=some (.int .i64 y)∧((wr.setCell ⟨w.heap.size+1,0,none⟩ (.int .i64 y)).setCell ⟨w.heap.size+1,1,none⟩ (.slice a' n' c')).cell? ⟨w.heap.size+1,1,none⟩=some (.slice a' n' c'))∧eX (From w.heap.size) ((wr.setCell ⟨w.heap.size+1,0,none⟩ (.int .i64 y)).setCell ⟨w.heap.size+1,1,none⟩ (.slice a' n' c')) (.slice a' n' c') of∧Below w.heap.size w ((wr.setCell ⟨w.heap.size+1,0,none⟩ (.int .i64 y)).setCell ⟨w.heap.size+1,1,none⟩ (.slice a' n' c')):=fun y a' n' c' of wr h hF=>by have hrr:=(h.block _ (by omega)).trans HR1.out;obtain⟨k1,k2⟩:=Cr hrr y a' n' c';refine⟨⟨by rw[cell_of_row _ _ _ _ _ _ k1];rfl,by rw[cell_of_row _ _ _ _ _ _ k1];rfl⟩,(hF.kept k2.size fun k hk (hB:w1.heap.size≤k)=>k2.block k hk (by omega)).mono fun k _ (hB:w1.heap.size≤k)=>(by show w.heap.size≤k;omega),aj (aj HL1.out.below h HL1.out.size) (k2.below (n:=w.heap.size) (by omega) (by have:=h.size;omega)) (Nat.le_refl _)⟩
 have HFin:=au fin;clear fin;obtain⟨fn,aH⟩:=f;dsimp only at*
 go_enter Tryz.func69,Tryz.ntmps69
 go_wp2_with (first|(rw[←HW1.out])|fail)
 refine wp_region_held_drew (S:=fun w'=>Below w1.heap.size w1 w') (by kernel_rfl) (Below.refl _ _).drew (fun hHeld=>?_);refine tkY 0 10 hHeld ?_;refine tkY 1 11 hHeld ?_;refine tkY 2 12 hHeld ?_;refine tkY 3 13 hHeld ?_;refine tkY 4 14 hHeld ?_ rfl fun w hSw=>by obtain⟨⟨p0,p1⟩,p3,p4⟩:=HCe.out _ hSw;go_simp;try with_reducible rfl
 refine tkY 5 15 hHeld ?_ rfl fun w hSw=>by obtain⟨⟨p0,p1⟩,p3,p4⟩:=HCe.out _ hSw;go_simp;try with_reducible rfl
 refine tkC 6 fun K hK=>?_;go_simp;refine(HIn.out _ hHeld).mono ?_;rintro e w2 ⟨rfl,hL2⟩;have hB2:=aj hHeld hL2.out.below hHeld.size;refine hK.out _ _ hB2 (fun hHeld=>?_);clear hK K;refine tkY 7 17 hHeld ?_;refine wpAnyH_done (by kernel_rfl) ?_ _;clear hHeld hL2;have HB2:=au hB2;cases hin:inB told (fn,aH) with
 |true=>
  have HE:Hid (W=(-1,[])):=by show _=_;rw[HWy.out,if_pos hin]
  obtain⟨⟨z0,z1⟩,z2,z3⟩:=HFin.out (-1) none 0 0 [] w2 hB2 (eX.nil _ _);have hrr:=(hB2.block _ (by omega:w.heap.size+1<w1.heap.size)).trans HR1.out;obtain⟨t0,t1,t2,t3,_⟩:=iH hrr;have HZ:=au (And.intro z0 (And.intro z1 (And.intro z2 z3)));clear hin hB2 HWy HOo HFin z0 z1 z2 z3 hrr HIn;go_wp2;obtain⟨z0,z1,z2,z3⟩:=HZ.out;refine bodyPost_ret (v:=.agg #[.int .i64 (-1),.slice none 0 0]) (by simp[results,Tryz.results69,go_sem,z0,z1]) rfl ⟨.slice none 0 0,by rw[HE.out],by rw[HE.out];exact z2,z3⟩
 |false=>
  obtain⟨o1,o2⟩:=HOo.out hin;have hWy:=HWy.out;rw[if_neg (by rw[hin];simp)] at hWy;have hBw2:=aj HL1.out.below hB2 HL1.out.size;have HBf:=au (Ol P lo (.slice pa p.length pc) (.slice ta told.length tc) (.agg #[.string fn,.slice sa aH.length sc]) c d mb all PS (fn,aH) w2 (HS.out.below hBw2) HRs.out (HFV.out w2 hBw2) o2 o1 hsm);obtain⟨OL,hOL⟩:∃OL,OL=PS.getD (dJ PS (fn,aH)-1) []:=⟨_,rfl⟩;have hOr:fP OL:=by rw[hOL,List.getD_eq_getElem?_getD,List.getElem?_eq_getElem (by omega)];exact HRs.out _ (List.getElem_mem _)
  rw[←hOL] at HBf hWy;have HOr:=au hOr;have HW2:=au hWy;obtain⟨⟨y0,y1⟩,y3,y4⟩:=HCe.out w2 hB2;clear hin hB2 hWy HWy HOo hOr hOL o1 o2 hBw2 HIn
  go_wp2_with fail
  refine HBf.out.mono ?_;rintro e w3 ⟨v3,rfl,hF3,hL3⟩;have HF3:=au hF3;obtain⟨a3,c3,rfl⟩:=aF hF3;have hB3:=aj HB2.out hL3.below HB2.out.size;have HB3:=au hB3;obtain⟨⟨x0,x1⟩,_,_⟩:=HCe.out w3 hB3;clear hF3 hL3 HBf y0 y1 y3 y4 hB3 HB2;obtain⟨G,hGd⟩:∃G,G=fun r=>byP (jv all) all OL r (fn,aH):=⟨_,rfl⟩;rw[←hGd] at HW2;have HGd:=au hGd;clear hGd;go_wp2;clear x0 x1
  go_loopg [27] p.length (fun g i wr=>∃j:Nat,j+g=p.length∧i=.int .i64 j∧Hid (W=iw G j (p.drop j))∧Hid (Below w1.heap.size w1 wr)∧Hid (Below w3.heap.size w3 wr))
  case atStart=>exact⟨0,by omega,rfl,HW2,HB3,Below.refl _ _⟩
  clear HW2;obtain⟨j,hj,rfl,HW2,HB,HBr⟩:=hrel
  by_cases hlt:j<p.length
  ·obtain⟨r,hr⟩:∃r,p[j]?=some r:=⟨_,List.getElem?_eq_getElem hlt⟩;have Ke:=aj HL1.out.below HB.out HL1.out.size;obtain⟨b1,o1,_,e1,hb1,hri,hc⟩:=aB.bO (aB.aJ HPv.out Ke) hr;subst e1;obtain⟨hv,bv,hce,hhv,hbv⟩:=hri;subst hce;obtain⟨ha',hc',rfl⟩:=aB.slice hhv;obtain⟨ba,bc,rfl⟩:=aB.slice hbv;have d0:wr.cell? ⟨b1,o1+j*4,none⟩=some (.bool r.head.no):=by simpa[eP] using hc 0 _ rfl
   have d1:wr.cell? ⟨b1,o1+j*4+1,none⟩=some (.string (bs r.head.name)):=by simpa[eP] using hc 1 _ rfl
   have d2:wr.cell? ⟨b1,o1+j*4+2,none⟩=some (.slice ha' r.head.terms.length hc'):=by simpa[eP] using hc 2 _ rfl
   have d3:wr.cell? ⟨b1,o1+j*4+3,none⟩=some (.slice ba r.body.length bc):=by simpa[eP] using hc 3 _ rfl
   obtain⟨wa,hwa⟩:∃wa,wa=wr.alloc (.cells #[.bool r.head.no,.string (bs r.head.name),.slice ha' r.head.terms.length hc',.slice ba r.body.length bc] 82):=⟨_,rfl⟩;have hLa:ak wr wa:=by rw[hwa];exact(ak.refl wr).alloc _
   have hRa:wa.heap[wr.heap.size]?=some (.cells #[.bool r.head.no,.string (bs r.head.name),.slice ha' r.head.terms.length hc',.slice ba r.body.length bc] 82 (0,0)):=by rw[hwa];exact heap_alloc_new wr _
   have q0:wa.cell? ⟨wr.heap.size,0,none⟩=some (.bool r.head.no):=by rw[cell_of_row _ _ _ _ _ _ hRa];rfl
   have q1:wa.cell? ⟨wr.heap.size,0+1,none⟩=some (.string (bs r.head.name)):=by rw[cell_of_row _ _ _ _ _ _ hRa];rfl
   have q2:wa.cell? ⟨wr.heap.size,0+2,none⟩=some (.slice ha' r.head.terms.length hc'):=by rw[cell_of_row _ _ _ _ _ _ hRa];rfl
   have q3:wa.cell? ⟨wr.heap.size,0+3,none⟩=some (.slice ba r.body.length bc):=by rw[cell_of_row _ _ _ _ _ _ hRa];rfl
   have hBa:=aj HB.out hLa.below HB.out.size;have Ub:=aj Ke hLa.below Ke.size;obtain⟨av,sv,xs,hPB,_,hFa,_⟩:=(HS.out.below Ub).has;obtain⟨s1,s2,s3⟩:=HSh.out r (List.mem_of_getElem? hr);have HBy:=au (byC all OL r (fn,aH) P _ (.slice ta told.length tc) av (.slice ha' r.head.terms.length hc') (.slice ba r.body.length bc) (.agg #[.string fn,.slice sa aH.length sc]) (.slice a3 OL.length c3) sv c d mb wa hPB (aB.aK hhv hLa) (aB.aK hbv hLa) (HFV.out wa Ub) ((HF3.out.below HBr.out).later hLa) hFa HOr.out s1 s2 s3);have hfb:=rQ (g:=G) hr;have hGr:G r=byP (jv all) all OL r (fn,aH):=by rw[HGd.out]
   rw[←hGr] at HBy;obtain⟨gr,hgr⟩:∃gr,gr=G r:=⟨_,rfl⟩;rw[←hgr] at HBy hfb;have HFb:=au hfb;obtain⟨⟨_,_⟩,z3,z4⟩:=HCe.out wa hBa;have HBa:=au hBa;have V6:=au (aj HBr.out hLa.below HBr.out.size);have HWa:=au hwa;clear hr hc hhv hbv hwa hLa hRa hBa Ub Ke hPB hFa hfb hGr hgr s1 s2 s3;generalize bs r.head.name=nm at*;generalize r.head.no=no at*
   go_wp2_with (first|(rw[←HWa.out])|fail)
   refine HBy.out.mono ?_;rintro e w5 ⟨v5,rfl,hV5,hB5⟩;have QH:=aj HBa.out hB5 HBa.out.size;have YI:=au QH;have YJ:=au (aj V6.out hB5 V6.out.size);clear HBy d0 d1 d2 d3 q0 q1 q2 q3 z3 z4 hB5;cases gr with
   |none=>
    obtain rfl:v5=.slice none 0 0:=hV5;have HW5:Hid (W=iw G (j+1) (p.drop (j+1))):=by show _=_;rw[HW2.out,HFb.out]
    simp only[Option.isSome_none];clear QH HFb HW2;go_wp2
    go_roundg (p.length- (j+1))
    case measure=>omega
    case rel=>exact⟨j+1,by omega,by go_num,HW5,YI,YJ⟩
   |some of=>
    have V7:eX (From wa.heap.size) w5 v5 of:=hV5;have hF5:eX (From w1.heap.size) w5 v5 of:=V7.mono fun k _ (h:wa.heap.size≤k)=>(by show w1.heap.size≤k;have:=HBa.out.size;omega);obtain⟨a5,c5,rfl⟩:=aF hF5.facts;have HE:Hid (W=((j:Int),of)):=by show _=_;rw[HW2.out,HFb.out]
    obtain⟨⟨z0,z1⟩,z2,z3⟩:=HFin.out (j:Int) a5 of.length c5 of w5 QH hF5;have hrr:=(QH.block _ (by omega:w.heap.size+1<w1.heap.size)).trans HR1.out;obtain⟨t0,t1,t2,t3,_⟩:=iH hrr;have HZ:=au (And.intro z0 (And.intro z1 (And.intro z2 z3)));simp only[Option.isSome_some];clear hV5 V7 hF5 QH HFb HW2 z0 z1 z2 z3 hrr;go_wp2;obtain⟨z0,z1,z2,z3⟩:=HZ.out;refine bodyPost_ret (v:=.agg #[.int .i64 (j:Int),.slice a5 of.length c5]) (by simp[results,Tryz.results69,go_sem,z0,z1]) rfl ⟨.slice a5 of.length c5,by rw[HE.out],by rw[HE.out];exact z2,z3⟩
  have HE:Hid (W=(-1,[])):=by show _=_;rw[HW2.out,List.drop_eq_nil_of_le (by omega)];rfl
  obtain⟨⟨z0,z1⟩,z2,z3⟩:=HFin.out (-1) none 0 0 [] wr HB.out (eX.nil _ _);have hrr:=(HB.out.block _ (by omega:w.heap.size+1<w1.heap.size)).trans HR1.out;obtain⟨t0,t1,t2,t3,_⟩:=iH hrr;have HZ:=au (And.intro z0 (And.intro z1 (And.intro z2 z3)));clear HW2 z0 z1 z2 z3 hrr;go_wp2;obtain⟨z0,z1,z2,z3⟩:=HZ.out;refine bodyPost_ret (v:=.agg #[.int .i64 (-1),.slice none 0 0]) (by simp[results,Tryz.results69,go_sem,z0,z1]) rfl ⟨.slice none 0 0,by rw[HE.out],by rw[HE.out];exact z2,z3⟩
theorem Om (v t:Value) (l:List aN) (g:aN) (w:World) (hf:Facts w v l) (ht:dD w t g) (hr:fP l):
  Calls Tryz.prog 67 #[v,t,.func (.func 68) #[] #[]] w fun e w'=>∃n:Nat,e=.returned (.tuple #[.int .i64 (n:Int),.bool (dY l g 0)])∧(n≤l.length∧(∀t,t<n→fO (l.getD t aC) g<0)∧∀t,n≤t→t<l.length→0≤fO (l.getD t aC) g)∧ak w w':=by
 have mx:=mixed;have HF:=au hf;have HT:=au ht;have HR:=au hr;obtain⟨a,cap,rfl,hn,hz⟩:=hf.addr;obtain⟨s2,rfl,l2,a2,c2,rfl,_⟩:=ht;clear hf hr
 go_enter Tryz.func67,Tryz.ntmps67
 go_wp2
 go_loopw [9,10] (fun i j wr=>∃lo hi:Nat,lo≤hi∧hi≤l.length∧i=.int .i64 lo∧j=.int .i64 hi∧ak (w.alloc (.cells #[.string g.1,.slice a2 g.2.length c2] 27)) wr∧Hid (∀t,t<lo→fO (l.getD t aC) g<0)∧Hid (∀t,hi≤t→t<l.length→0≤fO (l.getD t aC) g)) (fun i j _=>(intOf j).toNat- (intOf i).toNat)
 case atStart=>exact⟨0,l.length,by omega,by omega,rfl,rfl,ak.refl _,fun t ht=>absurd ht (Nat.not_lt_zero _),fun t h1 h2=>by omega⟩
 obtain⟨lo,hi,hlh,hin,rfl,rfl,hL,HA,HB⟩:=hrel;have hL0:ak w wr:=((ak.refl _).alloc _).trans hL;have z0:=cell_later hL (p:=⟨w.heap.size,0,none⟩) (v:=.string g.1) (by simp) (by simp);have z1:=cell_later hL (p:=⟨w.heap.size,1,none⟩) (v:=.slice a2 g.2.length c2) (by simp) (by simp)
 by_cases hlt:lo<hi
 ·rcases hz with rfl|⟨b,off,rfl⟩;·simp at hin;omega
  obtain⟨m,hm⟩:∃m,m=(lo+hi)/2:=⟨_,rfl⟩;have hml:m<l.length:=by omega
  have hlm:lo≤m:=by omega
  have hmh:m<hi:=by omega
  have em:((lo:Int)+(hi:Int))/2=(m:Int):=by omega
  clear hm;have hltz:(lo:Int)<(hi:Int):=by omega
  have hmz:(m:Int)<(l.length:Int):=by omega
  obtain⟨ax,lx,cx,g1,g2,fx⟩:=(HF.out.later hL0).grown hml;have hC:∀q os,Calls Tryz.prog 68 #[.agg #[.string (l.getD m aC).1,.slice ax lx cx],.agg #[.string g.1,.slice a2 g.2.length c2]] (grow (wr.drewN q) os) fun e w''=>e=.returned (.int .i64 (fO (l.getD m aC) g))∧ak (grow (wr.drewN q) os) w'':=
   fun q os=>kQ _ _ _ _ _ (fx.later ⟨q,os,rfl⟩) ((HT.out.later hL0).later ⟨q,os,rfl⟩)
  have HC:=au hC;clear hC fx;have hlow:=HR.out;have Am:fO (l.getD m aC) g<0→∀t,t<m+1→fO (l.getD t aC) g<0:=fun h t ht=>by
   by_cases e:t=m
   ·rw[e];exact h
   have h3:=List.pairwise_iff_getElem.1 hlow t m (by omega) hml (by omega);refine aW.trans _ (l.getD m aC) _ ?_ h;rw[List.getD_eq_getElem?_getD,List.getElem?_eq_getElem (by omega),List.getD_eq_getElem?_getD,List.getElem?_eq_getElem hml];exact h3
  have hstep2:0≤fO (l.getD m aC) g→∀t,m≤t→t<l.length→0≤fO (l.getD t aC) g:=fun h t h1 h2=>by
   by_cases e:t=m
   ·rw[e];exact h
   have h3:=List.pairwise_iff_getElem.1 hlow m t (by omega) h2 (by omega);refine Int.not_lt.1 fun n=>?_;have h4:=aW.trans (l.getD m aC) (l.getD t aC) g (by rw[List.getD_eq_getElem?_getD,List.getElem?_eq_getElem (by omega),List.getD_eq_getElem?_getD,List.getElem?_eq_getElem h2];exact h3) n
   omega
  have H1:=au Am;have H2:=au hstep2;clear Am hstep2 hlow;generalize hcm:fO (l.getD m aC) g=cm at*;have HCM:=au hcm;clear hcm;generalize(l.getD m aC).1=nm at*
  by_cases hneg:cm<0
  ·go_wp2
   go_quiet_grown ((go_at_call 68;exact Calls.grown_of (HC.out _ _)))
   go_wp2
   go_roundw
   case rel=>exact⟨m+1,hi,by omega,hin,by go_num,rfl,hL.trans ⟨_,_,rfl⟩,H1.out hneg,HB⟩
   case measure=>simp[intOf];omega
  go_wp2
  go_quiet_grown ((go_at_call 68;exact Calls.grown_of (HC.out _ _)))
  go_wp2
  go_roundw
  case rel=>exact⟨lo,m,by omega,by omega,rfl,rfl,hL.trans ⟨_,_,rfl⟩,HA,H2.out (by omega)⟩
  case measure=>simp[intOf];omega
 obtain rfl:lo=hi:=by omega
 have hfin:=meet HR.out hin HA.out HB.out
 by_cases hll:lo<l.length
 ·rcases hz with rfl|⟨b,off,rfl⟩;·simp at hll
  have hmz:(lo:Int)<(l.length:Int):=by omega
  obtain⟨ax,lx,cx,g1,g2,fx⟩:=(HF.out.later hL0).grown hll;have hC:∀q os,Calls Tryz.prog 68 #[.agg #[.string (l.getD lo aC).1,.slice ax lx cx],.agg #[.string g.1,.slice a2 g.2.length c2]] (grow (wr.drewN q) os) fun e w''=>e=.returned (.int .i64 (fO (l.getD lo aC) g))∧ak (grow (wr.drewN q) os) w'':=
   fun q os=>kQ _ _ _ _ _ (fx.later ⟨q,os,rfl⟩) ((HT.out.later hL0).later ⟨q,os,rfl⟩)
  have HC:=au hC;rw[decide_eq_true hll] at hfin;have HFN:=au hfin;clear hC fx hfin;generalize hcm:fO (l.getD lo aC) g=cm at*;generalize(l.getD lo aC).1=nm at*;have HCM:=au hcm;clear hcm;go_wp2
  go_quiet_grown ((go_at_call 68;exact Calls.grown_of (HC.out _ _)))
  go_wp2
  go_ret2
  exact⟨lo,yR (by rw[HFN.out,Bool.true_and,Bool.eq_iff_iff];simp),⟨hin,HA.out,HB.out⟩,hL0.trans ⟨_,_,rfl⟩⟩
 rw[decide_eq_false hll] at hfin;have HFN:=au hfin;clear hfin;have hd:decide ((lo:Int)<(l.length:Int))=false:=by rw[decide_eq_false_iff_not];omega
 go_wp2
 go_quiet (fail)
 go_wp2
 go_ret2
 exact⟨lo,yR (by rw[HFN.out];rfl),⟨hin,HA.out,HB.out⟩,hL0.drewN _⟩
def Si (s:Bs):List aI×Int×Nat:=
 if 3000<s.length then([],4,0) else match Kw s with
  | .ok out _=>(out,0,0)
  | .bad n r=>([],n,s.length-r.length)
end Go.Proofs.YtaallngooaaonaaGreatDoor
