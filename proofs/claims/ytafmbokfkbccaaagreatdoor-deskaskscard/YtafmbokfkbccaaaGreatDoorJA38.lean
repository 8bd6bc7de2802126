import Derived.Test.YtafmbokfkbccaaaGreatDoorJA37
import Derived.Test.YtafmbokfkbccaaaGreatDoorJA6
import Derived.Test.YtafmbokfkbccaaaGreatDoorJA17
import Derived.Test.YtafmbokfkbccaaaGreatDoorJA26
namespace Go.Proofs.YtafmbokfkbccaaaGreatDoor
open Go.RowKit Go.Sort
theorem Bb {g:aA→Option (List au)} {p:List aA} {j:Nat} {r:aA} (h:p[j]?=some r):jP g j (p.drop j)=match g r with|some of=>((j:Int),of)|none=>jP g (j+1) (p.drop (j+1)):=by
 obtain⟨hi,e⟩:=List.getElem?_eq_some_iff.1 h;rw[List.drop_eq_getElem_cons hi,e]
 rfl
theorem Fh {w:World} {b:Nat} {x:Int} {a:Option Addr} {n c:Nat} {t:TypeId} {fr:Nat×Nat} (h:w.heap[b]?=some (.cells #[.int .i64 x,.slice a n c] t fr)):q9 w b:=fun off s e=>by
 rw[cell_of_row _ _ _ _ _ _ h] at e;rcases off with _|_|off <;> simp at e
theorem CK {w:World} {b:Nat} {x:Int} {a:Option Addr} {n c:Nat} (h:w.heap[b]?=some (.cells #[.int .i64 x,.slice a n c] 182 (0,0))) (y:Int) (a':Option Addr) (n' c':Nat):
  ((w.setCell ⟨b,0,none⟩ (.int .i64 y)).setCell ⟨b,1,none⟩ (.slice a' n' c')).heap[b]?=some (.cells #[.int .i64 y,.slice a' n' c'] 182 (0,0))∧Tn b w ((w.setCell ⟨b,0,none⟩ (.int .i64 y)).setCell ⟨b,1,none⟩ (.slice a' n' c')):=by
 refine⟨by rw[dZ (j:=1) (dZ (j:=0) h _) _];rfl,?_⟩;exact Tn.setCell (p:=b) (Tn.setCell (p:=b) (Tn.refl _ _) (x:=⟨b,0,none⟩) (Or.inl rfl) _) (x:=⟨b,1,none⟩) (Or.inl rfl) _
set_option maxRecDepth 100000 in
set_option maxHeartbeats 4000000 in
theorem Sv (p:List aA) (told all:List au) (PS:List (List au)) (f:au) (P lo:Nat) (pv tv fv:Value) (c d:Int) (mb:Nat) (w:World) (hS:PrS w P lo pv tv c d mb all PS) (hpv:dX.sl bU w pv p) (ht:Facts w tv told) (hrt:gW told) (hr:∀l∈PS,gW l) (hf:dz w fv f)
  (ho:inB told f=false→1≤iB PS f∧iB PS f<PS.length) (hsm:PS.length≤1000000) (hsh:∀r∈p,r.head.terms.length≤4∧r.body.length≤5∧∀a∈r.body,a.terms.length≤4) (hpl:p.length≤16):
  Calls Tryz.prog 180 #[.pointer (some ⟨P,0,none⟩),fv] w fun e w'=>∃v,e=.returned (.agg #[.int .i64 (qX (nP all) p told all PS f).1,v])∧bC (From w.heap.size) w' v (qX (nP all) p told all PS f).2∧Below w.heap.size w w':=by
 obtain⟨s,rfl,hs⟩:=hf;obtain⟨sa,sc,rfl⟩:=aW hs;obtain⟨pa,pc,rfl⟩:=Kind.slice hpv;obtain⟨ta,tc,rfl⟩:=aB ht;obtain⟨w1,hw1⟩:∃w1,w1=(w.alloc (.cells #[.string f.1,.slice sa f.2.length sc] 27)).alloc (.cells #[.int .i64 0,.slice none 0 0] 182):=⟨_,rfl⟩;have hL1:Later w w1:=by rw[hw1];exact((Later.refl w).alloc _).alloc _
 have hs1:w1.heap.size=w.heap.size+2:=by rw[hw1];simp
 have hr0:w1.heap[w.heap.size]?=some (.cells #[.string f.1,.slice sa f.2.length sc] 27 (0,0)):=by
  rw[hw1];simp only[iA,World.size_alloc]
  repeat (first|rw[if_pos trivial]|rw[if_pos (by omega)]|rw[if_neg (by omega)])
 have hr1:w1.heap[w.heap.size+1]?=some (.cells #[.int .i64 0,.slice none 0 0] 182 (0,0)):=by
  rw[hw1];simp only[iA,World.size_alloc]
  repeat (first|rw[if_pos trivial]|rw[if_pos (by omega)]|rw[if_neg (by omega)])
 have HFV:Hid (∀w',Below w.heap.size w w'→dz w' (.agg #[.string f.1,.slice sa f.2.length sc]) f):=fun w' h=>⟨_,rfl,hs.below h⟩;have HS:=hide hS;have HPv:=hide hpv;have HTo:=hide ht;have HRt:=hide hrt;have HRs:=hide hr;have HSh:=hide hsh;have HL1:=hide hL1;have HR0:=hide hr0;have HR1:=hide hr1;have HW1:=hide hw1;have HCe:Hid (∀w',Below w1.heap.size w1 w'→(w'.cell? ⟨P,0,none⟩=some (.slice pa p.length pc)∧w'.cell? ⟨P,1,none⟩=some (.slice ta told.length tc))∧w'.cell? ⟨w.heap.size,0,none⟩=some (.string f.1)∧w'.cell? ⟨w.heap.size,0+1,none⟩=some (.slice sa f.2.length sc)):=fun w' h=>by
  obtain⟨av,sv,xs,hB,_⟩:=((hS.below hL1.below).below h).has;have h0:=(h.block _ (by omega)).trans hr0;exact⟨⟨hB.cells.1,hB.cells.2.1⟩,by rw[cell_of_row _ _ _ _ _ _ h0];rfl,by rw[cell_of_row _ _ _ _ _ _ h0];rfl⟩
 have HIn:Hid (∀w',Below w1.heap.size w1 w'→Calls Tryz.prog 23 #[.slice ta told.length tc,.agg #[.string f.1,.slice sa f.2.length sc]] w' fun e w''=>e=.returned (.bool (inB told f))∧Hid (Later w' w'')):=fun w' h=>by
  have hh:=aj hL1.below h hL1.size;have:=inC (.slice ta told.length tc) (.agg #[.string f.1,.slice sa f.2.length sc]) told f w' (ht.below hh) ⟨_,rfl,hs.below hh⟩ hrt;rw[BZ] at this;exact this
 obtain⟨W,hW⟩:∃W,W=qX (nP all) p told all PS f:=⟨_,rfl⟩;rw[←hW];unfold qX at hW;have HWy:=hide hW;have HOo:=hide ho;clear hS hpv ht hrt hr hs ho hsh hL1 hr0 hr1 hw1 hW;have fin:∀(y:Int) (a':Option Addr) (n' c':Nat) (of:List au) (wr:World),Below w1.heap.size w1 wr→bC (From w1.heap.size) wr (.slice a' n' c') of→(((wr.setCell ⟨w.heap.size+1,0,none⟩ (.int .i64 y)).setCell ⟨w.heap.size+1,1,none⟩ (.slice a' n' c')).cell? ⟨w.heap.size+1,0,none⟩=some (.int .i64 y)∧((wr.setCell ⟨w.heap.size+1,0,none⟩ (.int .i64 y)).setCell ⟨w.heap.size+1,1,none⟩ (.slice a' n' c')).cell? ⟨w.heap.size+1,1,none⟩=some (.slice a' n' c'))∧bC (From w.heap.size) ((wr.setCell ⟨w.heap.size+1,0,none⟩ (.int .i64 y)).setCell ⟨w.heap.size+1,1,none⟩ (.slice a' n' c')) (.slice a' n' c') of∧Below w.heap.size w ((wr.setCell ⟨w.heap.size+1,0,none⟩ (.int .i64 y)).setCell ⟨w.heap.size+1,1,none⟩ (.slice a' n' c')):=fun y a' n' c' of wr h hF=>by
  have hrr:=(h.block _ (by omega)).trans HR1.out;obtain⟨k1,k2⟩:=CK hrr y a' n' c';refine⟨⟨by rw[cell_of_row _ _ _ _ _ _ k1];rfl,by rw[cell_of_row _ _ _ _ _ _ k1];rfl⟩,(hF.kept k2.size fun k hk (hB:w1.heap.size≤k)=>k2.block k hk (by omega)).mono fun k _ (hB:w1.heap.size≤k)=>(by show w.heap.size≤k;omega),aj (aj HL1.out.below h HL1.out.size) (k2.below (n:=w.heap.size) (by omega) (by have:=h.size;omega)) (Nat.le_refl _)⟩
 have HFin:=hide fin;clear fin;obtain⟨fn,aJ⟩:=f;dsimp only at*
 go_enter Tryz.func180,Tryz.ntmps180
 go_wp2_with (first|(rw[←HW1.out])|fail)
 refine wp_region_held_drew (S:=fun w'=>Below w1.heap.size w1 w') (by kernel_rfl) (Below.refl _ _).drew (fun hHeld=> ?_);refine ak (i:=0) (d:=some 10) (v:= ?_) rfl rfl hHeld ?_ ?_;rotate_left;focus intro w hSw;(try dsimp only at hSw);go_simp;try with_reducible rfl
 simp only[aK,aL,aze,asu];refine ak (i:=1) (d:=some 11) (v:= ?_) rfl rfl hHeld ?_ ?_;rotate_left;focus intro w hSw;(try dsimp only at hSw);go_simp;try with_reducible rfl
 simp only[aK,aL,aze,asu];refine ak (i:=2) (d:=some 12) (v:= ?_) rfl rfl hHeld ?_ ?_;rotate_left;focus intro w hSw;(try dsimp only at hSw);go_simp;try with_reducible rfl
 simp only[aK,aL,aze,asu];refine ak (i:=3) (d:=some 13) (v:= ?_) rfl rfl hHeld ?_ ?_;rotate_left;focus intro w hSw;(try dsimp only at hSw);go_simp;try with_reducible rfl
 simp only[aK,aL,aze,asu];refine ak (i:=4) (d:=some 14) (v:= ?_) rfl rfl hHeld ?_ ?_;rotate_left;focus intro w hSw;(try dsimp only at hSw);obtain⟨⟨p0,p1⟩,p3,p4⟩:=HCe.out _ hSw;go_simp;try with_reducible rfl
 simp only[aK,aL,aze,asu];refine ak (i:=5) (d:=some 15) (v:= ?_) rfl rfl hHeld ?_ ?_;rotate_left;focus intro w hSw;(try dsimp only at hSw);obtain⟨⟨p0,p1⟩,p3,p4⟩:=HCe.out _ hSw;go_simp;try with_reducible rfl
 simp only[aK,aL,aze,asu];refine wpAnyH_ready (rs:=[6]) (by kernel_rfl) (by simp) ?_;refine AllReadyH.cons rfl (fun K hK=> ?_) AllReadyH.nil;go_simp;refine(HIn.out _ hHeld).mono ?_;rintro e w2 ⟨rfl,hL2⟩;have hB2:=aj hHeld hL2.out.below hHeld.size;refine hK.out _ _ hB2 (fun hHeld=> ?_);clear hK K;refine ak (i:=7) (d:=some 17) (v:= ?_) rfl rfl hHeld ?_ ?_;rotate_left;focus intro w hSw;(try dsimp only at hSw);go_simp;try with_reducible rfl
 simp only[aK,aL,aze,asu];refine wpAnyH_done (by kernel_rfl) ?_ _;clear hHeld hL2;have HB2:=hide hB2;cases hin:inB told (fn,aJ) with
 |true=>
  have HE:Hid (W=(-1,[])):=by show _=_;rw[HWy.out,if_pos hin]
  obtain⟨⟨z0,z1⟩,z2,z3⟩:=HFin.out (-1) none 0 0 [] w2 hB2 (bC.nil _ _);have hrr:=(hB2.block _ (by omega:w.heap.size+1<w1.heap.size)).trans HR1.out;obtain⟨t0,t1,t2,t3,_⟩:=jM hrr;have HZ:=hide (And.intro z0 (And.intro z1 (And.intro z2 z3)));clear hin hB2 HWy HOo HFin z0 z1 z2 z3 hrr HIn;go_wp2;obtain⟨z0,z1,z2,z3⟩:=HZ.out;refine bodyPost_ret (v:=.agg #[.int .i64 (-1),.slice none 0 0]) (by simp[results,Tryz.results180,go_sem,z0,z1]) rfl ⟨.slice none 0 0,by rw[HE.out],by rw[HE.out];exact z2,z3⟩
 |false=>
  obtain⟨o1,o2⟩:=HOo.out hin;have hWy:=HWy.out;rw[if_neg (by rw[hin];simp)] at hWy;have hBw2:=aj HL1.out.below hB2 HL1.out.size;have HBf:=hide (Ni P lo (.slice pa p.length pc) (.slice ta told.length tc) (.agg #[.string fn,.slice sa aJ.length sc]) c d mb all PS (fn,aJ) w2 (HS.out.below hBw2) HRs.out (HFV.out w2 hBw2) o2 o1 hsm);obtain⟨OL,hOL⟩:∃OL,OL=PS.getD (iB PS (fn,aJ)-1) []:=⟨_,rfl⟩;have hOr:gW OL:=by
   rw[hOL,List.getD_eq_getElem?_getD,List.getElem?_eq_getElem (by omega)];exact HRs.out _ (List.getElem_mem _)
  rw[←hOL] at HBf hWy;have HOr:=hide hOr;have HW2:=hide hWy;obtain⟨⟨y0,y1⟩,y3,y4⟩:=HCe.out w2 hB2;clear hin hB2 hWy HWy HOo hOr hOL o1 o2 hBw2 HIn
  go_wp2_with fail
  refine HBf.out.mono ?_;rintro e w3 ⟨v3,rfl,hF3,hL3⟩;have HF3:=hide hF3;obtain⟨a3,c3,rfl⟩:=aB hF3;have hB3:=aj HB2.out hL3.below HB2.out.size;have HB3:=hide hB3;obtain⟨⟨x0,x1⟩,_,_⟩:=HCe.out w3 hB3;clear hF3 hL3 HBf y0 y1 y3 y4 hB3 HB2;obtain⟨G,hGd⟩:∃G,G=fun r=>byP (nP all) all OL r (fn,aJ):=⟨_,rfl⟩;rw[←hGd] at HW2;have HGd:=hide hGd;clear hGd;go_wp2;clear x0 x1
  go_loopg [27] p.length (fun g i wr=>∃j:Nat,j+g=p.length∧i=.int .i64 j∧Hid (W=jP G j (p.drop j))∧Hid (Below w1.heap.size w1 wr)∧Hid (Below w3.heap.size w3 wr))
  case atStart=>exact⟨0,by omega,rfl,HW2,HB3,Below.refl _ _⟩
  case round=>
   clear HW2;obtain⟨j,hj,rfl,HW2,HB,HBr⟩:=hrel
   by_cases hlt:j<p.length
   ·obtain⟨r,hr⟩:∃r,p[j]?=some r:=⟨_,List.getElem?_eq_getElem hlt⟩;have QA:=aj HL1.out.below HB.out HL1.out.size;obtain⟨b1,o1,_,e1,hb1,hri,hc⟩:=Kind.eT (Kind.aX HPv.out QA) hr;subst e1;obtain⟨hv,bv,hce,hhv,hbv⟩:=hri;subst hce;obtain⟨ha',hc',rfl⟩:=Kind.slice hhv;obtain⟨ba,bc,rfl⟩:=Kind.slice hbv;have d0:wr.cell? ⟨b1,o1+j*4,none⟩=some (.bool r.head.no):=by simpa[dX] using hc 0 _ rfl
    have d1:wr.cell? ⟨b1,o1+j*4+1,none⟩=some (.string (bs r.head.name)):=by simpa[dX] using hc 1 _ rfl
    have d2:wr.cell? ⟨b1,o1+j*4+2,none⟩=some (.slice ha' r.head.terms.length hc'):=by simpa[dX] using hc 2 _ rfl
    have d3:wr.cell? ⟨b1,o1+j*4+3,none⟩=some (.slice ba r.body.length bc):=by simpa[dX] using hc 3 _ rfl
    obtain⟨wa,hwa⟩:∃wa,wa=wr.alloc (.cells #[.bool r.head.no,.string (bs r.head.name),.slice ha' r.head.terms.length hc',.slice ba r.body.length bc] 87):=⟨_,rfl⟩;have hLa:Later wr wa:=by rw[hwa];exact(Later.refl wr).alloc _
    have hRa:wa.heap[wr.heap.size]?=some (.cells #[.bool r.head.no,.string (bs r.head.name),.slice ha' r.head.terms.length hc',.slice ba r.body.length bc] 87 (0,0)):=by rw[hwa];exact heap_alloc_new wr _
    have q0:wa.cell? ⟨wr.heap.size,0,none⟩=some (.bool r.head.no):=by rw[cell_of_row _ _ _ _ _ _ hRa];rfl
    have q1:wa.cell? ⟨wr.heap.size,0+1,none⟩=some (.string (bs r.head.name)):=by rw[cell_of_row _ _ _ _ _ _ hRa];rfl
    have q2:wa.cell? ⟨wr.heap.size,0+2,none⟩=some (.slice ha' r.head.terms.length hc'):=by rw[cell_of_row _ _ _ _ _ _ hRa];rfl
    have q3:wa.cell? ⟨wr.heap.size,0+3,none⟩=some (.slice ba r.body.length bc):=by rw[cell_of_row _ _ _ _ _ _ hRa];rfl
    have hBa:=aj HB.out hLa.below HB.out.size;have Sw:=aj QA hLa.below QA.size;obtain⟨av,sv,xs,hPB,_,hFa,_⟩:=(HS.out.below Sw).has;obtain⟨s1,s2,s3⟩:=HSh.out r (List.mem_of_getElem? hr);have HBy:=hide (byC all OL r (fn,aJ) P _ (.slice ta told.length tc) av (.slice ha' r.head.terms.length hc') (.slice ba r.body.length bc) (.agg #[.string fn,.slice sa aJ.length sc]) (.slice a3 OL.length c3) sv c d mb wa hPB (Kind.aO hhv hLa) (Kind.aO hbv hLa) (HFV.out wa Sw) ((HF3.out.below HBr.out).later hLa) hFa HOr.out s1 s2 s3);have hfb:=Bb (g:=G) hr;have hGr:G r=byP (nP all) all OL r (fn,aJ):=by rw[HGd.out]
    rw[←hGr] at HBy;obtain⟨gr,hgr⟩:∃gr,gr=G r:=⟨_,rfl⟩;rw[←hgr] at HBy hfb;have HFb:=hide hfb;obtain⟨⟨_,_⟩,z3,z4⟩:=HCe.out wa hBa;have HBa:=hide hBa;have Uz:=hide (aj HBr.out hLa.below HBr.out.size);have HWa:=hide hwa;clear hr hc hhv hbv hwa hLa hRa hBa Sw QA hPB hFa hfb hGr hgr s1 s2 s3;generalize bs r.head.name=nm at*;generalize r.head.no=no at*
    go_wp2_with (first|(rw[←HWa.out])|fail)
    refine HBy.out.mono ?_;rintro e w5 ⟨v5,rfl,hV5,hB5⟩;have PY:=aj HBa.out hB5 HBa.out.size;have Wo:=hide PY;have Wp:=hide (aj Uz.out hB5 Uz.out.size);clear HBy d0 d1 d2 d3 q0 q1 q2 q3 z3 z4 hB5;cases gr with
    |none=>
     obtain rfl:v5=.slice none 0 0:=hV5;have HW5:Hid (W=jP G (j+1) (p.drop (j+1))):=by show _=_;rw[HW2.out,HFb.out]
     simp only[Option.isSome_none];clear PY HFb HW2;go_wp2
     go_roundg (p.length- (j+1))
     case measure=>omega
     case rel=>exact⟨j+1,by omega,by go_num,HW5,Wo,Wp⟩
    |some of=>
     have UA:bC (From wa.heap.size) w5 v5 of:=hV5;have hF5:bC (From w1.heap.size) w5 v5 of:=UA.mono fun k _ (h:wa.heap.size≤k)=>(by show w1.heap.size≤k;have:=HBa.out.size;omega);obtain⟨a5,c5,rfl⟩:=aB hF5.facts;have HE:Hid (W=((j:Int),of)):=by show _=_;rw[HW2.out,HFb.out]
     obtain⟨⟨z0,z1⟩,z2,z3⟩:=HFin.out (j:Int) a5 of.length c5 of w5 PY hF5;have hrr:=(PY.block _ (by omega:w.heap.size+1<w1.heap.size)).trans HR1.out;obtain⟨t0,t1,t2,t3,_⟩:=jM hrr;have HZ:=hide (And.intro z0 (And.intro z1 (And.intro z2 z3)));simp only[Option.isSome_some];clear hV5 UA hF5 PY HFb HW2 z0 z1 z2 z3 hrr;go_wp2;obtain⟨z0,z1,z2,z3⟩:=HZ.out;refine bodyPost_ret (v:=.agg #[.int .i64 (j:Int),.slice a5 of.length c5]) (by simp[results,Tryz.results180,go_sem,z0,z1]) rfl ⟨.slice a5 of.length c5,by rw[HE.out],by rw[HE.out];exact z2,z3⟩
   ·have HE:Hid (W=(-1,[])):=by show _=_;rw[HW2.out,List.drop_eq_nil_of_le (by omega)];rfl
    obtain⟨⟨z0,z1⟩,z2,z3⟩:=HFin.out (-1) none 0 0 [] wr HB.out (bC.nil _ _);have hrr:=(HB.out.block _ (by omega:w.heap.size+1<w1.heap.size)).trans HR1.out;obtain⟨t0,t1,t2,t3,_⟩:=jM hrr;have HZ:=hide (And.intro z0 (And.intro z1 (And.intro z2 z3)));clear HW2 z0 z1 z2 z3 hrr;go_wp2;obtain⟨z0,z1,z2,z3⟩:=HZ.out;refine bodyPost_ret (v:=.agg #[.int .i64 (-1),.slice none 0 0]) (by simp[results,Tryz.results180,go_sem,z0,z1]) rfl ⟨.slice none 0 0,by rw[HE.out],by rw[HE.out];exact z2,z3⟩
end Go.Proofs.YtafmbokfkbccaaaGreatDoor
namespace Go.Proofs.YtafmbokfkbccaaaGreatDoor
open Go.RowKit Go.Sort
set_option maxHeartbeats 1000000 in
theorem Nj (v t:Value) (l:List aI) (g:aI) (w:World) (hf:Facts w v l) (ht:dz w t g) (hr:gW l):
  Calls Tryz.prog 127 #[v,t,.func (.func 128) #[] #[]] w fun e w'=>∃n:Nat,e=.returned (.tuple #[.int .i64 (n:Int),.bool (gF l g 0)])∧(n≤l.length∧(∀t,t<n→gM (l.getD t aC) g<0)∧∀t,n≤t→t<l.length→0≤gM (l.getD t aC) g)∧Later w w':=by
 have mx:=mixed;have HF:=hide hf;have HT:=hide ht;have HR:=hide hr;obtain⟨a,cap,rfl,hn,hz⟩:=hf.addr;obtain⟨s2,rfl,l2,a2,c2,rfl,_⟩:=ht;clear hf hr
 go_enter Tryz.func127,Tryz.ntmps127
 go_wp2
 go_loopw [9,10] (fun i j wr=>∃lo hi:Nat,lo≤hi∧hi≤l.length∧i=.int .i64 lo∧j=.int .i64 hi∧Later (w.alloc (.cells #[.string g.1,.slice a2 g.2.length c2] 27)) wr∧Hid (∀t,t<lo→gM (l.getD t aC) g<0)∧Hid (∀t,hi≤t→t<l.length→0≤gM (l.getD t aC) g)) (fun i j _=>(intOf j).toNat- (intOf i).toNat)
 case atStart=>exact⟨0,l.length,by omega,by omega,rfl,rfl,Later.refl _,fun t ht=>absurd ht (Nat.not_lt_zero _),fun t h1 h2=>by omega⟩
 case round=>
  obtain⟨lo,hi,hlh,hin,rfl,rfl,hL,HA,HB⟩:=hrel;have hL0:Later w wr:=((Later.refl _).alloc _).trans hL;have z0:=cell_later hL (p:=⟨w.heap.size,0,none⟩) (v:=.string g.1) (by simp) (by simp);have z1:=cell_later hL (p:=⟨w.heap.size,1,none⟩) (v:=.slice a2 g.2.length c2) (by simp) (by simp)
  by_cases hlt:lo<hi
  ·rcases hz with rfl|⟨b,off,rfl⟩
   ·simp at hin;omega
   obtain⟨m,hm⟩:∃m,m=(lo+hi)/2:=⟨_,rfl⟩;have hml:m<l.length:=by omega
   have hlm:lo≤m:=by omega
   have hmh:m<hi:=by omega
   have em:((lo:Int)+(hi:Int))/2=(m:Int):=by omega
   clear hm;have hltz:(lo:Int)<(hi:Int):=by omega
   have hmz:(m:Int)<(l.length:Int):=by omega
   obtain⟨ax,lx,cx,g1,g2,fx⟩:=(HF.out.later hL0).grown hml;have hC:∀q os,Calls Tryz.prog 128 #[.agg #[.string (l.getD m aC).1,.slice ax lx cx],.agg #[.string g.1,.slice a2 g.2.length c2]] (grow (wr.drewN q) os) fun e w''=>e=.returned (.int .i64 (gM (l.getD m aC) g))∧Later (grow (wr.drewN q) os) w'':=
    fun q os=>kY _ _ _ _ _ (fx.later ⟨q,os,rfl⟩) ((HT.out.later hL0).later ⟨q,os,rfl⟩)
   have HC:=hide hC;clear hC fx;have hlow:=HR.out;have zI:gM (l.getD m aC) g<0→∀t,t<m+1→gM (l.getD t aC) g<0:=fun h t ht=>by
    by_cases e:t=m
    ·rw[e];exact h
    ·have h3:=List.pairwise_iff_getElem.1 hlow t m (by omega) hml (by omega);refine aT.trans _ (l.getD m aC) _ ?_ h;rw[List.getD_eq_getElem?_getD,List.getElem?_eq_getElem (by omega),List.getD_eq_getElem?_getD,List.getElem?_eq_getElem hml];exact h3
   have hstep2:0≤gM (l.getD m aC) g→∀t,m≤t→t<l.length→0≤gM (l.getD t aC) g:=fun h t h1 h2=>by
    by_cases e:t=m
    ·rw[e];exact h
    ·have h3:=List.pairwise_iff_getElem.1 hlow m t (by omega) h2 (by omega);refine Int.not_lt.1 fun n=> ?_;have h4:=aT.trans (l.getD m aC) (l.getD t aC) g (by
      rw[List.getD_eq_getElem?_getD,List.getElem?_eq_getElem (by omega),List.getD_eq_getElem?_getD,List.getElem?_eq_getElem h2];exact h3) n
     omega
   have H1:=hide zI;have H2:=hide hstep2;clear zI hstep2 hlow;generalize hcm:gM (l.getD m aC) g=cm at*;have HCM:=hide hcm;clear hcm;generalize(l.getD m aC).1=nm at*
   by_cases hneg:cm<0
   ·go_wp2
    go_quiet_grown ((go_at_call 128;exact Calls.grown_of (HC.out _ _)))
    go_wp2
    go_roundw
    case rel=>exact⟨m+1,hi,by omega,hin,by go_num,rfl,hL.trans ⟨_,_,rfl⟩,H1.out hneg,HB⟩
    case measure=>simp[intOf];omega
   ·go_wp2
    go_quiet_grown ((go_at_call 128;exact Calls.grown_of (HC.out _ _)))
    go_wp2
    go_roundw
    case rel=>exact⟨lo,m,by omega,by omega,rfl,rfl,hL.trans ⟨_,_,rfl⟩,HA,H2.out (by omega)⟩
    case measure=>simp[intOf];omega
  ·obtain rfl:lo=hi:=by omega
   have hfin:=meet HR.out hin HA.out HB.out
   by_cases hll:lo<l.length
   ·rcases hz with rfl|⟨b,off,rfl⟩
    ·simp at hll
    have hmz:(lo:Int)<(l.length:Int):=by omega
    obtain⟨ax,lx,cx,g1,g2,fx⟩:=(HF.out.later hL0).grown hll;have hC:∀q os,Calls Tryz.prog 128 #[.agg #[.string (l.getD lo aC).1,.slice ax lx cx],.agg #[.string g.1,.slice a2 g.2.length c2]] (grow (wr.drewN q) os) fun e w''=>e=.returned (.int .i64 (gM (l.getD lo aC) g))∧Later (grow (wr.drewN q) os) w'':=
     fun q os=>kY _ _ _ _ _ (fx.later ⟨q,os,rfl⟩) ((HT.out.later hL0).later ⟨q,os,rfl⟩)
    have HC:=hide hC;rw[decide_eq_true hll] at hfin;have HFN:=hide hfin;clear hC fx hfin;generalize hcm:gM (l.getD lo aC) g=cm at*;generalize(l.getD lo aC).1=nm at*;have HCM:=hide hcm;clear hcm;go_wp2
    go_quiet_grown ((go_at_call 128;exact Calls.grown_of (HC.out _ _)))
    go_wp2
    go_ret2
    exact⟨lo,xQ (by rw[HFN.out,Bool.true_and,Bool.eq_iff_iff];simp),⟨hin,HA.out,HB.out⟩,hL0.trans ⟨_,_,rfl⟩⟩
   ·rw[decide_eq_false hll] at hfin;have HFN:=hide hfin;clear hfin;have hd:decide ((lo:Int)<(l.length:Int))=false:=by rw[decide_eq_false_iff_not];omega
    go_wp2
    go_quiet (fail)
    go_wp2
    go_ret2
    exact⟨lo,xQ (by rw[HFN.out];rfl),⟨hin,HA.out,HB.out⟩,hL0.drewN _⟩
end Go.Proofs.YtafmbokfkbccaaaGreatDoor
namespace Go.Proofs.YtafmbokfkbccaaaGreatDoor
open Go.RowKit Go.Sort Go.Maps
def Wq:ByteArray:={data:=#[98,40,88,41,32,58,45,32,97,40,88,41,44,32,33,99,40,88,41,46,32,99,40,88,41,32,58,45,32,100,40,88,41,46]}
def Ws:ByteArray:={data:=#[97,40,120,41,32,58,45,32,33,97,40,120,41,46]}
def ra:aA:=⟨⟨false,[98],[(true,[88])]⟩,[⟨false,[97],[(true,[88])]⟩,⟨true,[99],[(true,[88])]⟩]⟩
def rb:aA:=⟨⟨false,[99],[(true,[88])]⟩,[⟨false,[100],[(true,[88])]⟩]⟩
def rc:aA:=⟨⟨false,[97],[(false,[120])]⟩,[⟨true,[97],[(false,[120])]⟩]⟩
theorem Wt:bB (raw Wq)=([ra,rb],0,0):=by kernel_rfl
theorem Wu:bB (raw Ws)=([rc],0,0):=by kernel_rfl
theorem Sy:aG [ra,rb]=([1,0],0,0):=by kernel_rfl
theorem Sz:aG [rc]=([],10,0):=by kernel_rfl
theorem UC:gX [ra,rb]=(0,0):=by kernel_rfl
theorem Wv:vars ra.head=[[88]]:=by kernel_rfl
end Go.Proofs.YtafmbokfkbccaaaGreatDoor
namespace Go.Proofs.YtafmbokfkbccaaaGreatDoor
open Go.RowKit Go.Sort Go.Maps
end Go.Proofs.YtafmbokfkbccaaaGreatDoor
