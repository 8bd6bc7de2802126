import Derived.Test.YtafmbokfkbccaaaGreatDoorJD25
import Derived.Test.YtafmbokfkbccaaaGreatDoorJD9
import Derived.Test.YtafmbokfkbccaaaGreatDoorJD8
import Derived.Test.YtafmbokfkbccaaaGreatDoorJD22
import Derived.Test.YtafmbokfkbccaaaGreatDoorJD17
namespace Go.Proofs.YtafmbokfkbccaaaGreatDoor
open Go.RowKit Go.Sort
theorem Tn.grew {p:Nat} {a b c:World} {row:Option Nat} {o:Obj} (h:Tn p a b) (hg:(b.alloc o).grownBy c row) (hr:∀k,row=some k→a.heap.size≤k):Tn p a c:=
 ⟨hg.os.trans h.os,hg.tape.trans h.tape,hg.output.trans h.output,Nat.le_trans h.size (Nat.le_trans (by simp) hg.size),
  fun k hk ho=>(hg.block k (by simp;have:=h.size;omega) (fun e=>by have:=hr k e.symm;omega)).trans ((Below.heap_alloc b o k (by have:=h.size;omega)).trans (h.block k hk ho))⟩
structure FacW (w:World) (p q B:Nat) (nm:ByteArray) (s:RdS) (ts:List ByteArray) (wr:World):Prop where
 rd:RdB wr p q s
 tn:Tn p w wr
 res:wr.heap[w.heap.size]?=some (.cells #[.string ⟨#[]⟩,.slice none 0 0] 27 (0,0))
 box:∃av,wr.heap[B]?=some (.cells #[.string nm,av] 27 (0,0))∧bsK.own 9 (B+1) wr av ts
theorem FacW.drew {w:World} {p q B:Nat} {nm:ByteArray} {s:RdS} {ts:List ByteArray} {wr:World} (h:FacW w p q B nm s ts wr):FacW w p q B nm s ts wr.drew:=
 ⟨h.rd,h.tn.drew,h.res,h.box⟩
theorem bsK_low {lo lo':Nat} {w:World} {v:Value} {l:List ByteArray} (h:bsK.own 9 lo w v l) (hl:lo'≤lo):bsK.own 9 lo' w v l:=by
 obtain⟨xs,⟨h1,h2⟩,hx⟩:=h;refine⟨xs,⟨h1,?_⟩,fun i x hi=> ?_⟩
 ·rcases h2 with e|⟨g,cap,cur,e,hb,r⟩
  ·exact Or.inl e
  ·exact Or.inr ⟨g,cap,cur,e,Nat.le_trans hl hb,r⟩
 ·obtain⟨c,c1,c2⟩:=hx i x hi;exact⟨c,c1,c2⟩
theorem rTexts_len:∀(n:Nat) (s:RdS),(rTexts n s).1.length=n
 |0,_=>rfl
 |n+1,s=>by rw[rTexts,List.length_cons,rTexts_len n]
set_option maxRecDepth 100000 in
set_option maxHeartbeats 2000000 in
theorem factRC (p q:Nat) (s:RdS) (w:World) (h:RdB w p q s) (hp:p<q) (hq:q≤w.heap.size):
  Calls Tryz.prog 200 #[.pointer (some ⟨p,0,none⟩)] w fun e w'=>∃s',e=.returned (.agg #[.string (rFact s).1.1,s'])∧bsK.own 9 w.heap.size w' s' (rFact s).1.2∧RdB w' p q (rFact s).2∧Tn p w w':=by
 obtain⟨w1,hw1⟩:∃w1,w1=w.alloc (.cells #[.string ⟨#[]⟩,.slice none 0 0] 27):=⟨_,rfl⟩;have hL1:Later w w1:=by rw[hw1];exact(Later.refl w).alloc _
 have hr1:w1.heap[w.heap.size]?=some (.cells #[.string ⟨#[]⟩,.slice none 0 0] 27 (0,0)):=by rw[hw1];exact heap_alloc_new w _
 have HT:=hide (textC p q s w1 (h.below hL1.below));obtain⟨nm,s1,hn⟩:∃nm s1,rText s=(nm,s1):=⟨_,_,rfl⟩;obtain⟨n,s2,hn2⟩:∃n s2,rNum s1=(n,s2):=⟨_,_,rfl⟩;have hle:=rNum_le s1;have HF:Hid (rFact s=((nm,(rTexts n s2).1),(rTexts n s2).2)):=by show _=_;unfold rFact;rw[hn];dsimp only;rw[hn2]
 rw[hn] at HT;rw[hn2] at hle;have HN2:=hide hn2;have HW1:=hide hw1;have HR1:=hide hr1;have HL1:=hide hL1;have hle:n<256:=hle;clear h hw1 hL1 hr1 hn hn2
 go_enter Tryz.func200,Tryz.ntmps200
 go_wp2_with (first|(rw[←HW1.out])|fail)
 refine HT.out.mono ?_;rintro e w2 ⟨rfl,hR2,hT2⟩;have hlt1:=(Array.getElem?_eq_some_iff.1 HR1.out).1;obtain⟨w3,hw3⟩:∃w3,w3=w2.alloc (.cells #[.string nm,.slice none 0 0] 27):=⟨_,rfl⟩;have hL3:Later w2 w3:=by rw[hw3];exact(Later.refl w2).alloc _
 have hr3:w3.heap[w2.heap.size]?=some (.cells #[.string nm,.slice none 0 0] 27 (0,0)):=by rw[hw3];exact heap_alloc_new w2 _
 have hw12:=HL1.out.size;have hsz2:=hT2.size;have hres2:w2.heap[w.heap.size]?=some (.cells #[.string ⟨#[]⟩,.slice none 0 0] 27 (0,0)):=by
  rw[hT2.block _ hlt1 (by omega)];exact HR1.out
 have hT12:Tn p w w2:=(Tn.of_below HL1.out.below).trans hT2;have hnum:=numberC p q s1 w3 (RdB.below hR2 hL3.below);rw[HN2.out] at hnum;have HNu:=hide hnum;have hres3:=(hL3.block (Array.getElem?_eq_some_iff.1 hres2).1).trans hres2;have HS3:=hide hres3;have HT3:=hide (hT12.trans (Tn.of_below (p:=p) hL3.below));have HR3:=hide hr3;have HW3:=hide hw3;have hB2:w.heap.size<w2.heap.size:=by omega
 clear hR2 hT2 hw3 hL3 hr3 hres2 hT12 hnum hres3 HT HW1 HR1
 go_wp2_with (first|(rw[←HW3.out])|fail)
 refine HNu.out.mono ?_;rintro e w4 ⟨rfl,hR4,hT4⟩;have hlt3:=(Array.getElem?_eq_some_iff.1 HR3.out).1;have hF0:FacW w p q w2.heap.size nm s2 [] w4:=⟨hR4,HT3.out.trans hT4,by rw[hT4.block _ (by omega) (by omega)];exact HS3.out,
  .slice none 0 0,by rw[hT4.block _ hlt3 (by omega)];exact HR3.out,bsK.own_nil _ _ _⟩
 have HF0:=hide hF0;have hz4:=hT4.size;clear hR4 hT4 hF0 HNu HS3 HR3 HT3 HW3 HN2 HL1;generalize w2.heap.size=B at*;dsimp only;go_wp2
 go_loopg [9] n (fun g i wr=>∃j:Nat,j+g=n∧i=.int .i64 j∧B<wr.heap.size∧∃ts st,Hid (ts.length=j)∧Hid (rTexts n s2=(ts++(rTexts g st).1,(rTexts g st).2))∧Hid (FacW w p q B nm st ts wr))
 case atStart=>exact⟨0,by omega,rfl,by omega,[],s2,(rfl:_=_),(rfl:_=_),HF0⟩
 case round=>
  clear HF0;obtain⟨j,hj,rfl,hBw,ts,st,HTl,HEq,HW⟩:=hrel;have hF:=HW.out;obtain⟨av,hbx,hav⟩:=hF.box;have hres:=hF.res;have hTn:=hF.tn;obtain⟨b0,b1,f0,f1,hltB⟩:=rowB hbx;obtain⟨aa,an,ac,rfl⟩:∃a n c,av=.slice a n c:=by obtain⟨a,c,e⟩:=Kind.own_slice hav;exact⟨a,_,c,e⟩
  by_cases hlt:j<n
  ·obtain⟨g,rfl⟩:∃g,gk=g+1:=⟨gk-1,by omega⟩;obtain⟨x,st1,hx⟩:∃x st1,rText st=(x,st1):=⟨_,_,rfl⟩;have HE1:Hid (rTexts n s2=((ts++[x])++(rTexts g st1).1,(rTexts g st1).2)):=by
    show _=_;rw[HEq.out,rTexts,hx,List.append_assoc];rfl
   have htx:=textC p q st wr.drew hF.rd;rw[hx] at htx;have HTx:=hide htx;have HAv:=hide hav;have HBx:=hide hbx;have HRes:=hide hres;have HTn:=hide hTn;clear hF hav hbx hres hTn htx hx HEq HW;go_wp2;refine wp_region_held_drew (S:=fun _=>True) (by kernel_rfl) trivial (fun hHeld=> ?_);refine take_yes (i:=0) (d:=some 11) (v:= ?_) rfl rfl hHeld ?_ ?_;rotate_left;focus intro w hSw;(try dsimp only at hSw);go_simp;try with_reducible rfl
   simp only[aput,aset,aze,asu];refine take_yes (i:=2) (d:=some 13) (v:= ?_) rfl rfl hHeld ?_ ?_;rotate_left;focus intro w hSw;(try dsimp only at hSw);go_simp;try with_reducible rfl
   simp only[aput,aset,aze,asu];refine wpAnyH_ready (rs:=[1,3]) (by kernel_rfl) (by simp) ?_;refine AllReadyH.cons rfl (fun K' hK=> ?gL) (AllReadyH.cons rfl (fun K' hK=> ?gC) AllReadyH.nil)
   case' gC=>
    go_simp;refine HTx.out.mono ?_;rintro e w5 ⟨rfl,hR5,hT5⟩;have hbx5:w5.heap[B]?=some (.cells #[.string nm,.slice aa an ac] 27 (0,0)):=by rw[hT5.block B hltB (by omega)];exact HBx.out
    have l5:=(rowB hbx5).2.1;have l6:(w5.alloc (.cells #[.string x] 9)).cell? ⟨B,1,none⟩=some (.slice aa an ac):=by
     have h6:(w5.alloc (.cells #[.string x] 9)).heap[B]?=some (.cells #[.string nm,.slice aa an ac] 27 (0,0)):=by
      rw[Below.heap_alloc w5 _ B (rowB hbx5).2.2.2.2];exact hbx5
     exact(rowB h6).2.1
    refine hK.out _ _ trivial (fun hHeld=> ?_);clear hK K';refine wpAnyH_ready (rs:=[1,4]) (by kernel_rfl) (by simp) ?_;refine AllReadyH.cons rfl (fun K' hK=> ?gCL) (AllReadyH.cons rfl (fun K' hK=> ?gCB) AllReadyH.nil)
    case' gCL=>
     go_simp;refine hK.out _ _ trivial (fun hHeld=> ?_);clear hK K';refine wpAnyH_ready (rs:=[4]) (by kernel_rfl) (by simp) ?_;refine AllReadyH.cons rfl (fun K' hK=> ?_) AllReadyH.nil;go_simp;refine hK.out _ _ trivial (fun hHeld=> ?_);clear hK K' l5 l6
    case' gCB=>
     go_simp;refine hK.out _ _ trivial (fun hHeld=> ?_);clear hK K';refine wpAnyH_ready (rs:=[1]) (by kernel_rfl) (by simp) ?_;refine AllReadyH.cons rfl (fun K' hK=> ?_) AllReadyH.nil;go_simp;refine hK.out _ _ trivial (fun hHeld=> ?_);clear hK K' l5 l6
   case' gL=>
    go_simp;refine hK.out _ _ trivial (fun hHeld=> ?_);clear hK K';refine wpAnyH_ready (rs:=[3]) (by kernel_rfl) (by simp) ?_;refine AllReadyH.cons rfl (fun K' hK=> ?_) AllReadyH.nil;go_simp;refine HTx.out.mono ?_;rintro e w5 ⟨rfl,hR5,hT5⟩;have hbx5:w5.heap[B]?=some (.cells #[.string nm,.slice aa an ac] 27 (0,0)):=by rw[hT5.block B hltB (by omega)];exact HBx.out
    refine hK.out _ _ trivial (fun hHeld=> ?_);clear hK K';refine wpAnyH_ready (rs:=[4]) (by kernel_rfl) (by simp) ?_;refine AllReadyH.cons rfl (fun K' hK=> ?_) AllReadyH.nil;go_simp;refine hK.out _ _ trivial (fun hHeld=> ?_);clear hK K'
   all_goals
    have hz5:wr.heap.size≤w5.heap.size:=hT5.size;have hav5:bsK.own 9 (B+1) w5 (.slice aa an ac) ts:=Kind.own_turned HAv.out (Tn.trans (Tn.of_below (Below.refl _ wr).drew) hT5) (by omega);have hl5:=HTl.out;obtain⟨v6,w6,hrun,hO6,hg6,_,hk6⟩:=appendArg hav5 x (by omega) (by omega);obtain⟨a6,n6,c6,rfl⟩:∃a n c,v6=.slice a n c:=by obtain⟨a,c,e⟩:=Kind.own_slice hO6;exact⟨a,_,c,e⟩
    have hown:∀k,(Value.slice aa an ac).ownBlock=some k→B+1≤k:=fun k e=>(Kind.own_lt HAv.out e).1;have hblk:∀k,k<w5.heap.size→k<B+1→w6.heap[k]?=w5.heap[k]?:=fun k hk hkb=>
     (hg6.block k (by simp;omega) (fun e=>by have:=hown k e.symm;omega)).trans (Below.heap_alloc w5 _ k hk)
    have hz6:w5.heap.size≤w6.heap.size:=Nat.le_trans (by simp) hg6.size;have hbx6:w6.heap[B]?=some (.cells #[.string nm,.slice aa an ac] 27 (0,0)):=(hblk B (rowB hbx5).2.2.2.2 (by omega)).trans hbx5;have hres6:w6.heap[w.heap.size]?=some (.cells #[.string ⟨#[]⟩,.slice none 0 0] 27 (0,0)):=by
     rw[hblk _ (by omega) (by omega),hT5.block _ (by show w.heap.size<wr.heap.size;omega) (by omega)];exact HRes.out
    have hR6:RdB w6 p q st1:=hR5.stay hz6 hp fun k hk hkq=>hblk k hk (by omega);have hT6:Tn p w w6:=(HTn.out.trans (Tn.trans (Tn.of_below (Below.refl _ wr).drew) hT5)).grew hg6 fun k e=>by have:=hown k e;omega
    obtain⟨m0,m1,g0,g1,hlt6⟩:=rowB hbx6;have HFin:Hid (FacW w p q B nm st1 (ts++[x]) (w6.setCell ⟨B,1,none⟩ (.slice a6 n6 c6))):=by
     have hT:=(Tn.refl B w6).setCell (x:=⟨B,1,none⟩) (Or.inl rfl) (.slice a6 n6 c6);refine⟨hR6.stay hT.size hp fun k hk hkq=>hT.block k hk (by omega),⟨hT.os.trans hT6.os,hT.tape.trans hT6.tape,hT.output.trans hT6.output,Nat.le_trans hT6.size hT.size,fun k hk hkp=>(hT.block k (by omega) (by omega)).trans (hT6.block k hk hkp)⟩,?_,_,set_row (j:=1) hbx6 _,Kind.own_turned hO6 hT (by omega)⟩;rw[hT.block _ (by omega) (by omega)];exact hres6
    have HRn:=hide hrun;clear hav5 hrun hO6 hg6 hk6 hown hblk hbx6 hres6 hR6 hT6 hR5 hT5 hbx5;refine wpAnyH_ready (rs:=[5]) (by kernel_rfl) (by simp) ?_;refine held_append (i:=5) rfl rfl rfl (.tmp 12) (.tmp 15) 25 25 rfl rfl _ _ _ _ rfl rfl HRn.out trivial (fun hHeld=> ?_) AllReadyH.nil;refine take_yes (i:=6) (d:=some 17) (v:= ?_) rfl rfl hHeld ?_ ?_;rotate_left;focus intro w hSw;(try dsimp only at hSw);go_simp;try with_reducible rfl
    simp only[aput];refine wpAnyH_ready (rs:=[7]) (by kernel_rfl) (by simp) ?_;refine AllReadyH.cons rfl (fun K' hK=> ?_) AllReadyH.nil;go_simp;refine hK.out _ _ trivial (fun hHeld=> ?_);clear hK K' hHeld;refine wpAnyH_done (by kernel_rfl) ?_ _;go_wp2
    go_roundg g
    case measure=>omega
    case rel=>exact⟨j+1,by omega,by go_num,by rw[size_setCell];omega,ts++[x],st1,(by show _=_;rw[List.length_append,hl5];rfl),HE1,HFin⟩
  ·have hg0:gk=0:=by omega
   subst hg0;have hE:rTexts n s2=(ts,st):=by have:=HEq.out;rw[this];simp[rTexts]
   have HE:=hide hE;obtain⟨r0,r1,f2,f3,_⟩:=rowB hres;have HAv:=hide hav;have HRes:=hide hres;have HTn:=hide hTn;have HRd:=hide hF.rd;clear hE hF hav hres hTn HEq HW hbx;go_wp2;have hT:Tn w.heap.size wr ((wr.setCell ⟨w.heap.size,0,none⟩ (.string nm)).setCell ⟨w.heap.size,1,none⟩ (.slice aa an ac)):=(Tn.two wr w.heap.size (.string nm) (.slice aa an ac)).2;have hrow:=set_row (j:=1) (set_row (j:=0) HRes.out (.string nm)) (.slice aa an ac);obtain⟨q0,q1,_⟩:=rowB hrow;refine bodyPost_ret (v:=.agg #[.string nm,.slice aa an ac]) (by simp[results,Tryz.results200,go_sem,q0,q1]) rfl ⟨.slice aa an ac,?_,?_,?_,?_⟩
   ·rw[HF.out]
   ·rw[HF.out,HE.out];exact bsK_low (Kind.own_turned HAv.out hT (by omega)) (by omega)
   ·rw[HF.out,HE.out];exact HRd.out.stay hT.size hp fun k hk hkq=>hT.block k hk (by omega)
   ·have h1:=HTn.out;exact⟨hT.os.trans h1.os,hT.tape.trans h1.tape,hT.output.trans h1.output,Nat.le_trans h1.size hT.size,fun k hk hkp=>(hT.block k (by have:=h1.size;omega) (by omega)).trans (h1.block k hk hkp)⟩
end Go.Proofs.YtafmbokfkbccaaaGreatDoor
namespace Go.Proofs.YtafmbokfkbccaaaGreatDoor
open Go.RowKit Go.Sort
theorem OwnF.get {base:Nat} {w:World} {a:Option Addr} {n c:Nat} {l:List FactD} (h:OwnF w base (.slice a n c) l) {i:Nat} {f:FactD} (hi:l[i]?=some f):
  ∃g s,a=some ⟨g,0,none⟩∧base≤g∧g<w.heap.size∧w.cell? ⟨g,i*2,none⟩=some (.string f.1)∧w.cell? ⟨g,i*2+1,none⟩=some s∧Strs w s f.2∧∀k,s.ownBlock=some k→base≤k∧k<w.heap.size:=by
 obtain⟨xs,ho,hx⟩:=h;have hlt:=(List.getElem?_eq_some_iff.1 hi).1;obtain⟨c1,s,c2,c3,c4⟩:=hx i hlt;have e:l.getD i noFact=f:=by rw[List.getD_eq_getElem?_getD,hi];rfl
 rw[e] at c1 c3;rcases ho.2 with⟨_,e0⟩|⟨g,cap,cur,e1,hbg,hg,_⟩
 ·omega
 ·simp only[Value.slice.injEq] at e1;obtain⟨rfl,rfl,rfl⟩:=e1;refine⟨g,s,rfl,hbg,(Array.getElem?_eq_some_iff.1 hg).1,?_,?_,c3,fun k hk=>⟨(c4 k hk).1,(c4 k hk).2.1⟩⟩
  ·have:=ho.cells (g:=g) rfl _ _ c1;rw[Addr.add_lit,Nat.zero_add] at this;exact this
  ·have:=ho.cells (g:=g) rfl _ _ c2;rw[Addr.add_lit,Nat.zero_add] at this;exact this
def NewR (b Z:Nat) (w:World) (v:Value) (l:List FactD):Prop:=
 ∃xs,w.ownsRow Z 27 2 v l.length xs∧∀i f,l[i]?=some f→xs[i*2]?=some (.string f.1)∧∃s,xs[i*2+1]?=some s∧Strs w s f.2∧(∀k,s.ownBlock=some k→b≤k∧k<Z)
theorem NewR.nil (b Z:Nat) (w:World):NewR b Z w (.slice none 0 0) []:=⟨[],World.ownsRow_nil w _ _ _,fun i f h=>by simp at h⟩
theorem NewR.slice {b Z:Nat} {w:World} {v:Value} {l:List FactD} (h:NewR b Z w v l):∃a cap,v=.slice a l.length cap:=by
 obtain⟨xs,ho,_⟩:=h;rcases ho.2 with⟨rfl,e⟩|⟨g,cap,cur,rfl,_⟩
 ·exact⟨none,0,by rw[e]⟩
 ·exact⟨_,cap,rfl⟩
theorem NewR.lt {b Z:Nat} {w:World} {v:Value} {l:List FactD} (h:NewR b Z w v l) {k:Nat} (hk:v.ownBlock=some k):Z≤k∧k<w.heap.size:=by
 obtain⟨xs,ho,_⟩:=h;exact ho.lt k hk
theorem NewR.stay {b Z:Nat} {w w':World} {v:Value} {l:List FactD} (h:NewR b Z w v l) (hb:b≤Z) (hs:w.heap.size≤w'.heap.size) (hk:∀k,k<w.heap.size→b≤k→w'.heap[k]?=w.heap[k]?):NewR b Z w' v l:=by
 obtain⟨xs,ho,hx⟩:=h;refine⟨xs,⟨ho.1,?_⟩,fun i f hi=> ?_⟩
 ·rcases ho.2 with e|⟨g,cap,cur,rfl,hbg,hg,r⟩
  ·exact Or.inl e
  ·exact Or.inr ⟨g,cap,cur,rfl,hbg,by rw[hk g (Array.getElem?_eq_some_iff.1 hg).1 (by omega)];exact hg,r⟩
 ·obtain⟨c1,s,c2,c3,c4⟩:=hx i f hi;exact⟨c1,s,c2,c3.kept' hs fun j hj e=>hk j hj (c4 j e).1,c4⟩
theorem NewR.facts {b Z:Nat} {w:World} {v:Value} {l:List FactD} (h:NewR b Z w v l) (hl:l.length≤3518437208883):Facts w v l:=by
 obtain⟨xs,ho,hx⟩:=h;rcases ho.2 with⟨rfl,e⟩|⟨g,cap,cur,rfl,hbg,hg,_⟩
 ·have:l=[]:=List.eq_nil_of_length_eq_zero e;subst this;exact⟨hl,none,0,rfl,fun e=>absurd rfl e⟩
 ·refine⟨hl,_,cap,rfl,fun _=>⟨g,0,rfl,(Array.getElem?_eq_some_iff.1 hg).1,fun i hi=> ?_⟩⟩;obtain⟨c1,s,c2,c3,_⟩:=hx i _ (List.getElem?_eq_getElem hi);have cellOf:∀j u,xs[j]?=some u→w.cell? ⟨g,0+j,none⟩=some u:=fun j u hu=>by
   have:=ho.cells (g:=g) rfl j u hu
   rwa [Addr.add_lit] at this
  rw[List.getD_eq_getElem?_getD,List.getElem?_eq_getElem hi];exact⟨cellOf _ _ c1,s,by rw[Nat.add_assoc];exact cellOf _ _ c2,c3⟩
theorem NewR.append {b Z:Nat} {w:World} {v:Value} {l:List FactD} (h:NewR b Z w v l) (f:FactD) (s:Value) (hs:Strs w s f.2) (hsb:∀k,s.ownBlock=some k→b≤k∧k<Z) (hl:l.length+1≤3518437208883) (hZ:Z≤w.heap.size) (h1:s.oneCell'=true):
  ∃v' w',(Builtin.append_ #[24,24] 24 #[v,.slice (some ⟨w.heap.size,0,none⟩) 1 1]).run Tryz.prog (w.alloc (.cells #[.string f.1,s] 27))=.ok v' w'∧NewR b Z w' v' (l++[f])∧(w.alloc (.cells #[.string f.1,s] 27)).grownBy w' v.ownBlock:=by
 have hv:=fun k=>h.lt (k:=k);obtain⟨xs,ho,hx⟩:=h;obtain⟨i,i1,i2,i3,i4⟩:=infoFact;obtain⟨v',w',hrun,r1,r2,r3,r4⟩:=append_own (P:=Tryz.prog) (w.alloc (.cells #[.string f.1,s] 27)) Z 24 24 27 i _ 2 40 Tryz.underlying24 i1 i2 i3 i4 rfl (by omega) v l.length xs (ho.alloc _) ⟨w.heap.size,0,none⟩ 1 1 [.string f.1,s] rfl
  (fun j u hu=>by
   rw[Addr.add_lit,Nat.zero_add,cell_of_row _ w.heap.size j #[.string f.1,s] 27 (0,0) (heap_alloc_new w _)];simpa using hu)
  (by intro u hu;simp at hu;rcases hu with rfl|rfl <;> first|rfl|exact h1) (by simp only[maxLen];omega) (by omega) (by simp;omega)
 have hxl:xs.length=l.length*2:=ho.1;have keep:∀{s':Value} {a:List ByteArray},Strs w s' a→(∀k,s'.ownBlock=some k→k<Z)→Strs w' s' a:=fun hs' hne=>
  hs'.kept' (Nat.le_trans (by simp) r2.size) fun k hk e=>(r2.block k (by simp;omega) (fun e'=>by have:=hne k e;have:=(hv k e'.symm).1;omega)).trans (Below.heap_alloc w _ k hk)
 refine⟨v',w',hrun,⟨xs++[.string f.1,s],by simpa using r1,fun j g hj=> ?_⟩,r2⟩
 by_cases hjl:j<l.length
 ·rw[List.getElem?_append_left hjl] at hj;obtain⟨c1,s',c2,c3,c4⟩:=hx j g hj;exact⟨by rw[List.getElem?_append_left (by omega)];exact c1,s',by rw[List.getElem?_append_left (by omega)];exact c2,keep c3 fun k e=>(c4 k e).2,c4⟩
 ·rw[List.getElem?_append_right (by omega)] at hj;have hj':j=l.length:=by
   have:=(List.getElem?_eq_some_iff.1 hj).1;simp at this;omega
  subst hj';simp at hj;subst hj;exact⟨by rw[List.getElem?_append_right (by omega),hxl];simp,s,by rw[List.getElem?_append_right (by omega),hxl];simp,keep hs fun k e=>(hsb k e).2,hsb⟩
theorem or_join {a b:Nat} (ha:a<256) (hb:b<256):bits .or .i64 ((a:Int)*256) (b:Int)=256*(a:Int)+b:=by
 have e:((a:Int)*256)=((a*256:Nat):Int):=by omega
 have ho:∀n:Nat,n<65536→(BitVec.ofInt 64 (n:Int)).toNat=n:=fun n hn=>by
  rw[BitVec.ofInt_natCast,BitVec.toNat_ofNat];exact Nat.mod_eq_of_lt (by omega)
 show IntKind.i64.wrap ((BitVec.ofInt 64 ((a:Int)*256)|||BitVec.ofInt 64 (b:Int)).toNat:Int)=_;rw[e,BitVec.toNat_or,ho _ (by omega),ho _ (by omega)];have h2:a*256|||b=a*256+b:=by
  have:=Nat.shiftLeft_add_eq_or_of_lt (i:=8) (b:=b) (by omega) a;rw[Nat.shiftLeft_eq] at this;exact this.symm
 rw[h2,IntKind.wrap_i64];omega
structure RunW (w:World) (p q B:Nat) (lv ro:Int) (dn:Bool) (s:RdS) (ks:List FactB) (wr:World):Prop where
 rd:RdB wr p q s
 tn:Tn p w wr
 res:wr.heap[w.heap.size]?=some (.cells #[.slice none 0 0,.slice none 0 0,.int .i64 0,.int .i64 0,.bool false] 47 (0,0))
 box:∃kv,wr.heap[B]?=some (.cells #[kv,.slice none 0 0,.int .i64 lv,.int .i64 ro,.bool dn] 47 (0,0))∧OwnF wr (B+1) kv ks
structure NewW (w wK:World) (p q B:Nat) (lv ro:Int) (dn:Bool) (kv:Value) (s:RdS) (N:List FactB) (wr:World):Prop where
 rd:RdB wr p q s
 tn:Tn p w wr
 res:wr.heap[w.heap.size]?=some (.cells #[.slice none 0 0,.slice none 0 0,.int .i64 0,.int .i64 0,.bool false] 47 (0,0))
 size:wK.heap.size≤wr.heap.size
 keep:∀k,k<wK.heap.size→B+1≤k→wr.heap[k]?=wK.heap[k]?
 box:∃nv,wr.heap[B]?=some (.cells #[kv,nv,.int .i64 lv,.int .i64 ro,.bool dn] 47 (0,0))∧NewR (B+1) wK.heap.size wr nv N
theorem rNews_step {l:List FactB} {j:Nat} {f:FactB} (h:l[j]?=some f) (s:RdS):rNews (l.drop j) s=(if(rFlag s).1 then f::(rNews (l.drop (j+1)) (rFlag s).2).1 else(rNews (l.drop (j+1)) (rFlag s).2).1,(rNews (l.drop (j+1)) (rFlag s).2).2):=by
 have hlt:=(List.getElem?_eq_some_iff.1 h).1;have e:l[j]=f:=(List.getElem?_eq_some_iff.1 h).2;rw[List.drop_eq_getElem_cons hlt,e,rNews]
theorem rFact_args (s:RdS):(rFact s).1.2.length<256:=by
 show(rTexts _ _).1.length<256;rw[rTexts_len];exact rNum_le _
theorem rFacts_len:∀(n:Nat) (s:RdS),(rFacts n s).1.length=n
 |0,_=>rfl
 |n+1,s=>by rw[rFacts,List.length_cons,rFacts_len n]
theorem rNews_len:∀(l:List FactB) (s:RdS),(rNews l s).1.length≤l.length
 |[],_=>Nat.le_refl _
 |f::l,s=>by
  have:=rNews_len l (rFlag s).2;unfold rNews;dsimp only;split <;> simp <;> omega
set_option maxRecDepth 100000 in
set_option maxHeartbeats 2000000 in
theorem runRC (p q:Nat) (s:RdS) (w:World) (h:RdB w p q s) (hp:p<q) (hq:q≤w.heap.size):
  Calls Tryz.prog 132 #[.pointer (some ⟨p,0,none⟩)] w fun e w'=>∃v,e=.returned v∧RunO w.heap.size w' v (rRun s).1∧RdB w' p q (rRun s).2∧Tn p w w':=by
 obtain⟨w1,hw1⟩:∃w1,w1=w.alloc (.cells #[.slice none 0 0,.slice none 0 0,.int .i64 0,.int .i64 0,.bool false] 47):=⟨_,rfl⟩;have hL1:Later w w1:=by rw[hw1];exact(Later.refl w).alloc _
 have hr1:w1.heap[w.heap.size]?=some (.cells #[.slice none 0 0,.slice none 0 0,.int .i64 0,.int .i64 0,.bool false] 47 (0,0)):=by rw[hw1];exact heap_alloc_new w _
 obtain⟨n1,s1,h1⟩:∃t s1,rNum s=(t,s1):=⟨_,_,rfl⟩;obtain⟨n2,s2,h2⟩:∃t s2,rNum s1=(t,s2):=⟨_,_,rfl⟩;obtain⟨n3,s3,h3⟩:∃t s3,rNum s2=(t,s3):=⟨_,_,rfl⟩;obtain⟨dn,s4,h4⟩:∃t s4,rFlag s3=(t,s4):=⟨_,_,rfl⟩;obtain⟨n5,s5,h5⟩:∃t s5,rNum s4=(t,s5):=⟨_,_,rfl⟩;have HX:Hid (rRun s=(⟨(rFacts n5 s5).1,(rNews (rFacts n5 s5).1 (rFacts n5 s5).2).1,n1,256*n2+n3,dn⟩,(rNews (rFacts n5 s5).1 (rFacts n5 s5).2).2)):=by
  show _=_;simp only[rRun,rHead,h1,h2,h3,h4,h5]
 have l1:=rNum_le s;have l2:=rNum_le s1;have l3:=rNum_le s2;have l5:=rNum_le s4;rw[h1] at l1;rw[h2] at l2;rw[h3] at l3;rw[h5] at l5;have l1:n1<256:=l1;have l2:n2<256:=l2;have l3:n3<256:=l3;have l5:n5<256:=l5;have c1:=numberC p q s w1 (h.below hL1.below);rw[h1] at c1;have HC1:=hide c1;have HC2:Hid (∀w,RdB w p q s1→Calls Tryz.prog 198 #[.pointer (some ⟨p,0,none⟩)] w fun e w'=>e=.returned (.int .i64 (n2:Nat))∧RdB w' p q s2∧Tn p w w'):=fun w h=>by
  have:=numberC p q s1 w h;rw[h2] at this;exact this
 have HC3:Hid (∀w,RdB w p q s2→Calls Tryz.prog 198 #[.pointer (some ⟨p,0,none⟩)] w fun e w'=>e=.returned (.int .i64 (n3:Nat))∧RdB w' p q s3∧Tn p w w'):=fun w h=>by
  have:=numberC p q s2 w h;rw[h3] at this;exact this
 have HC4:Hid (∀w,RdB w p q s3→Calls Tryz.prog 199 #[.pointer (some ⟨p,0,none⟩)] w fun e w'=>e=.returned (.bool dn)∧RdB w' p q s4∧Tn p w w'):=fun w h=>by
  have:=flagRC p q s3 w h;rw[h4] at this;exact this
 have HC5:Hid (∀w,RdB w p q s4→Calls Tryz.prog 198 #[.pointer (some ⟨p,0,none⟩)] w fun e w'=>e=.returned (.int .i64 (n5:Nat))∧RdB w' p q s5∧Tn p w w'):=fun w h=>by
  have:=numberC p q s4 w h;rw[h5] at this;exact this
 have HW1:=hide hw1;have HR1:=hide hr1;have HL1:=hide hL1;clear h hw1 hL1 hr1 h1 h2 h3 h4 h5 c1
 go_enter Tryz.func132,Tryz.ntmps132
 go_wp2_with (first|(rw[←HW1.out])|fail)
 refine HC1.out.mono ?_;rintro e w2 ⟨rfl,hR2,hT2⟩;have hlt1:=(Array.getElem?_eq_some_iff.1 HR1.out).1;obtain⟨w3,hw3⟩:∃w3,w3=w2.alloc (.cells #[.slice none 0 0,.slice none 0 0,.int .i64 n1,.int .i64 0,.bool false] 47):=⟨_,rfl⟩;have hL3:Later w2 w3:=by rw[hw3];exact(Later.refl w2).alloc _
 have hr3:w3.heap[w2.heap.size]?=some (.cells #[.slice none 0 0,.slice none 0 0,.int .i64 n1,.int .i64 0,.bool false] 47 (0,0)):=by rw[hw3];exact heap_alloc_new w2 _
 have hw12:=HL1.out.size;have hsz2:=hT2.size;have hres2:w2.heap[w.heap.size]?=some (.cells #[.slice none 0 0,.slice none 0 0,.int .i64 0,.int .i64 0,.bool false] 47 (0,0)):=by
  rw[hT2.block _ hlt1 (by omega)];exact HR1.out
 have hT12:Tn p w w2:=(Tn.of_below HL1.out.below).trans hT2;have HN:=hide (HC2.out w3 (RdB.below hR2 hL3.below));have HS3:=hide ((hL3.block (Array.getElem?_eq_some_iff.1 hres2).1).trans hres2);have HT3:=hide (hT12.trans (Tn.of_below (p:=p) hL3.below));have HR3:=hide hr3;have HW3:=hide hw3;have hB2:w.heap.size<w2.heap.size:=by omega
 clear hR2 hT2 hw3 hL3 hr3 hres2 hT12 HC1 HC2 HW1 HR1
 go_wp2_with (first|(rw[←HW3.out])|fail)
 refine HN.out.mono ?_;rintro e w4 ⟨rfl,hR4,hT4⟩;have hlt3:=(Array.getElem?_eq_some_iff.1 HR3.out).1;have HN3:=hide (HC3.out w4 hR4);have HS4:Hid (w4.heap[w.heap.size]?=_):=(hT4.block _ (by omega) (by omega)).trans HS3.out;have HB4:Hid (w4.heap[w2.heap.size]?=_):=(hT4.block _ hlt3 (by omega)).trans HR3.out;have HT4:=hide (HT3.out.trans hT4);have hz4:=hT4.size;clear hR4 hT4 HN HS3 HR3 HT3 HW3 HC3;generalize w2.heap.size=B at*
 go_wp2_with fail
 refine HN3.out.mono ?_;rintro e w5 ⟨rfl,hR5,hT5⟩;have hbx5:=(hT5.block _ (by omega) (by omega)).trans HB4.out;obtain⟨b0,b1,b2,b3,b4,⟨f0,f1,f2,f3,f4⟩,hltB⟩:=row5 hbx5;have hor:=or_join l2 l3;have HR5:=hide hR5;have HT5:=hide (HT4.out.trans hT5);have HB5:=hide hbx5;have HS5:Hid (w5.heap[w.heap.size]?=_):=(hT5.block _ (by omega) (by omega)).trans HS4.out;have hz5:=hT5.size;obtain⟨w6,hw6⟩:∃w6,w6=w5.setCell ⟨B,3,none⟩ (.int .i64 (256*(n2:Int)+n3)):=⟨_,rfl⟩;have hT6:Tn B w5 w6:=by rw[hw6];exact(Tn.refl B w5).setCell (Or.inl rfl) _
 have hbx6:w6.heap[B]?=some (.cells #[.slice none 0 0,.slice none 0 0,.int .i64 n1,.int .i64 (256*(n2:Int)+n3),.bool false] 47 (0,0)):=by rw[hw6,set_row (j:=3) HB5.out _];rfl
 have hR6:RdB w6 p q s3:=HR5.out.stay hT6.size hp fun k hk hkq=>hT6.block k hk (by omega);have HN6:=hide (HC4.out w6 hR6);have HS6:Hid (w6.heap[w.heap.size]?=_):=(hT6.block _ (by omega) (by omega)).trans HS5.out;have hbelow:∀a b:World,Tn p w a→Tn B a b→w.heap.size≤a.heap.size→Tn p w b:=fun a b h1 h2 hs=>
  ⟨h2.os.trans h1.os,h2.tape.trans h1.tape,h2.output.trans h1.output,Nat.le_trans h1.size h2.size,fun k hk hkp=>(h2.block k (by omega) (by omega)).trans (h1.block k hk hkp)⟩
 have HT6:=hide (hbelow _ _ HT5.out hT6 (by omega));have HB6:=hide hbx6;have hz6:=hT6.size;have HW6:=hide hw6;clear hR5 hT5 hbx5 HN3 HS4 HB4 HT4 hR6 hT6 hbx6 hw6 HC4 HR5 HT5 HB5 HS5
 go_wp2_with (first|(rw[←HW6.out])|fail)
 refine HN6.out.mono ?_;rintro e w7 ⟨rfl,hR7,hT7⟩;clear b0 b1 b2 b3 b4 f0 f1 f2 f3 f4;have hbx7:=(hT7.block _ (by omega) (by omega)).trans HB6.out;obtain⟨b0,b1,b2,b3,b4,⟨f0,f1,f2,f3,f4⟩,_⟩:=row5 hbx7;obtain⟨w8,hw8⟩:∃w8,w8=w7.setCell ⟨B,4,none⟩ (.bool dn):=⟨_,rfl⟩;have hT8:Tn B w7 w8:=by rw[hw8];exact(Tn.refl B w7).setCell (Or.inl rfl) _
 have hbx8:w8.heap[B]?=some (.cells #[.slice none 0 0,.slice none 0 0,.int .i64 n1,.int .i64 (256*(n2:Int)+n3),.bool dn] 47 (0,0)):=by rw[hw8,set_row (j:=4) hbx7 _];rfl
 have hz7:=hT7.size;have hz8:=hT8.size;have hR8:RdB w8 p q s4:=hR7.stay hT8.size hp fun k hk hkq=>hT8.block k hk (by omega);have HN8:=hide (HC5.out w8 hR8);have HS8:Hid (w8.heap[w.heap.size]?=_):=(hT8.block _ (by omega) (by omega)).trans ((hT7.block _ (by omega) (by omega)).trans HS6.out);have HT8:=hide (hbelow _ _ (HT6.out.trans hT7) hT8 (by omega));have HB8:=hide hbx8;have HW8:=hide hw8;have HBel:=hide hbelow;clear hR7 hT7 hbx7 hw8 hT8 hbx8 hR8 HN6 HS6 HT6 HB6 HW6 HC5 hbelow
 go_wp2_with (first|(rw[←HW8.out])|fail)
 refine HN8.out.mono ?_;rintro e w9 ⟨rfl,hR9,hT9⟩;clear b0 b1 b2 b3 b4 f0 f1 f2 f3 f4;have hz9:=hT9.size;have HF0:Hid (RunW w p q B n1 (256*(n2:Int)+n3) dn s5 [] w9):=⟨hR9,HT8.out.trans hT9,(hT9.block _ (by omega) (by omega)).trans HS8.out,.slice none 0 0,(hT9.block _ (by omega) (by omega)).trans HB8.out,OwnF.nil _ _⟩;clear hR9 hT9 HN8 HS8 HT8 HB8 HW8 hor;generalize hro:256*(n2:Int)+n3=ro at*;have HRo:=hide hro;clear hro l2 l3;dsimp only;go_wp2
 go_loopg [23] n5 (fun g i wr=>∃j:Nat,j+g=n5∧i=.int .i64 j∧B<wr.heap.size∧∃ks st,Hid (ks.length=j)∧Hid (rFacts n5 s5=(ks++(rFacts g st).1,(rFacts g st).2))∧Hid (RunW w p q B n1 ro dn st ks wr))
 case atStart=>exact⟨0,by omega,rfl,by omega,[],s5,(rfl:_=_),(rfl:_=_),HF0⟩
 case round=>
  clear HF0;obtain⟨j,hj,rfl,hBw,ks,st,HTl,HEq,HW⟩:=hrel;have hF:=HW.out;obtain⟨kv,hbx,hkv⟩:=hF.box;have hres:=hF.res;have hTn:=hF.tn;obtain⟨b0,b1,b2,b3,b4,⟨f0,f1,f2,f3,f4⟩,hltB'⟩:=row5 hbx;obtain⟨aa,an,ac,rfl⟩:∃a n c,kv=.slice a n c:=by obtain⟨a,c,e⟩:=hkv.slice;exact⟨a,_,c,e⟩
  by_cases hlt:j<n5
  ·obtain⟨g,rfl⟩:∃g,gk=g+1:=⟨gk-1,by omega⟩;obtain⟨x,st1,hx⟩:∃x st1,rFact st=(x,st1):=⟨_,_,rfl⟩;have HE1:Hid (rFacts n5 s5=((ks++[x])++(rFacts g st1).1,(rFacts g st1).2)):=by
    show _=_;rw[HEq.out,rFacts,hx,List.append_assoc];rfl
   have HXl:Hid (x.2.length<256):=by have:=rFact_args st;rw[hx] at this;exact this
   have htx:=factRC p q st wr.drew hF.rd hp (by show q≤wr.heap.size;omega);rw[hx] at htx;have HTx:=hide htx;have HKv:=hide hkv;have HBx:=hide hbx;have HRes:=hide hres;have HTn:=hide hTn;clear hF hkv hbx hres hTn htx hx HEq HW;go_wp2;refine wp_region_held_drew (S:=fun _=>True) (by kernel_rfl) trivial (fun hHeld=> ?_);refine take_yes (i:=0) (d:=some 25) (v:= ?_) rfl rfl hHeld ?_ ?_;rotate_left;focus intro w hSw;(try dsimp only at hSw);go_simp;try with_reducible rfl
   simp only[aput,aset,aze,asu];refine take_yes (i:=2) (d:=some 27) (v:= ?_) rfl rfl hHeld ?_ ?_;rotate_left;focus intro w hSw;(try dsimp only at hSw);go_simp;try with_reducible rfl
   simp only[aput,aset,aze,asu];refine wpAnyH_ready (rs:=[1,3]) (by kernel_rfl) (by simp) ?_;refine AllReadyH.cons rfl (fun K' hK=> ?gL) (AllReadyH.cons rfl (fun K' hK=> ?gC) AllReadyH.nil)
   case' gC=>
    go_simp;refine HTx.out.mono ?_;rintro e w5 ⟨sv,rfl,hsv,hR5,hT5⟩;obtain⟨sa,sn,sc,rfl⟩:∃a n c,sv=.slice a n c:=by obtain⟨a,c,e⟩:=Kind.own_slice hsv;exact⟨a,_,c,e⟩
    have hbx5:w5.heap[B]?=some (.cells #[.slice aa an ac,.slice none 0 0,.int .i64 n1,.int .i64 ro,.bool dn] 47 (0,0)):=by rw[hT5.block B hltB' (by omega)];exact HBx.out
    have l5':=(row5 hbx5).1;have l6':(w5.alloc (.cells #[.string x.1,.slice sa sn sc] 27)).cell? ⟨B,0,none⟩=some (.slice aa an ac):=by
     have h6:(w5.alloc (.cells #[.string x.1,.slice sa sn sc] 27)).heap[B]?=some (.cells #[.slice aa an ac,.slice none 0 0,.int .i64 n1,.int .i64 ro,.bool dn] 47 (0,0)):=by
      rw[Below.heap_alloc w5 _ B (row5 hbx5).2.2.2.2.2.2];exact hbx5
     exact(row5 h6).1
    refine hK.out _ _ trivial (fun hHeld=> ?_);clear hK K';refine wpAnyH_ready (rs:=[1,4]) (by kernel_rfl) (by simp) ?_;refine AllReadyH.cons rfl (fun K' hK=> ?gCL) (AllReadyH.cons rfl (fun K' hK=> ?gCB) AllReadyH.nil)
    case' gCL=>
     go_simp;refine hK.out _ _ trivial (fun hHeld=> ?_);clear hK K';refine wpAnyH_ready (rs:=[4]) (by kernel_rfl) (by simp) ?_;refine AllReadyH.cons rfl (fun K' hK=> ?_) AllReadyH.nil;go_simp;refine hK.out _ _ trivial (fun hHeld=> ?_);clear hK K' l5' l6'
    case' gCB=>
     go_simp;refine hK.out _ _ trivial (fun hHeld=> ?_);clear hK K';refine wpAnyH_ready (rs:=[1]) (by kernel_rfl) (by simp) ?_;refine AllReadyH.cons rfl (fun K' hK=> ?_) AllReadyH.nil;go_simp;refine hK.out _ _ trivial (fun hHeld=> ?_);clear hK K' l5' l6'
   case' gL=>
    go_simp;refine hK.out _ _ trivial (fun hHeld=> ?_);clear hK K';refine wpAnyH_ready (rs:=[3]) (by kernel_rfl) (by simp) ?_;refine AllReadyH.cons rfl (fun K' hK=> ?_) AllReadyH.nil;go_simp;refine HTx.out.mono ?_;rintro e w5 ⟨sv,rfl,hsv,hR5,hT5⟩;obtain⟨sa,sn,sc,rfl⟩:∃a n c,sv=.slice a n c:=by obtain⟨a,c,e⟩:=Kind.own_slice hsv;exact⟨a,_,c,e⟩
    have hbx5:w5.heap[B]?=some (.cells #[.slice aa an ac,.slice none 0 0,.int .i64 n1,.int .i64 ro,.bool dn] 47 (0,0)):=by rw[hT5.block B hltB' (by omega)];exact HBx.out
    refine hK.out _ _ trivial (fun hHeld=> ?_);clear hK K';refine wpAnyH_ready (rs:=[4]) (by kernel_rfl) (by simp) ?_;refine AllReadyH.cons rfl (fun K' hK=> ?_) AllReadyH.nil;go_simp;refine hK.out _ _ trivial (fun hHeld=> ?_);clear hK K'
   all_goals
    have hz5':wr.heap.size≤w5.heap.size:=hT5.size;have hT05:Tn p wr w5:=Tn.trans (Tn.of_below (Below.refl _ wr).drew) hT5;have hkv5:OwnF w5 (B+1) (.slice aa an ac) ks:=HKv.out.stay hT05.size fun k hk hkb=>hT05.block k hk (by omega);have hl5:=HTl.out;have hst5:Strs w5 (.slice sa sn sc) x.2:=bsK_strs hsv (by have:=HXl.out;omega);have hsb5:∀k,(Value.slice sa sn sc).ownBlock=some k→B+1≤k∧k<w5.heap.size∧(Value.slice aa an ac).ownBlock≠some k:=fun k e=>by
     have h1:wr.heap.size≤k∧k<w5.heap.size:=Kind.own_lt hsv e;exact⟨by omega,h1.2,fun e'=>by have:=(HKv.out.lt e').2;omega⟩
    obtain⟨v6,w6,hrun,hO6,hg6,_⟩:=OwnF.append hkv5 x (.slice sa sn sc) hst5 hsb5 (by omega) (by omega) rfl;obtain⟨a6,n6,c6,rfl⟩:∃a n c,v6=.slice a n c:=by obtain⟨a,c,e⟩:=hO6.slice;exact⟨a,_,c,e⟩
    have hown:∀k,(Value.slice aa an ac).ownBlock=some k→B+1≤k:=fun k e=>(HKv.out.lt e).1;have hblk:∀k,k<w5.heap.size→k<B+1→w6.heap[k]?=w5.heap[k]?:=fun k hk hkb=>
     (hg6.block k (by simp;omega) (fun e=>by have:=hown k e.symm;omega)).trans (Below.heap_alloc w5 _ k hk)
    have hz6':w5.heap.size≤w6.heap.size:=Nat.le_trans (by simp) hg6.size;have hbx6:w6.heap[B]?=some (.cells #[.slice aa an ac,.slice none 0 0,.int .i64 n1,.int .i64 ro,.bool dn] 47 (0,0)):=(hblk B (row5 hbx5).2.2.2.2.2.2 (by omega)).trans hbx5;have hres6:w6.heap[w.heap.size]?=some (.cells #[.slice none 0 0,.slice none 0 0,.int .i64 0,.int .i64 0,.bool false] 47 (0,0)):=by
     rw[hblk _ (by omega) (by omega),hT05.block _ (by omega) (by omega)];exact HRes.out
    have hR6:RdB w6 p q st1:=RdB.stay hR5 hz6' hp fun k hk hkq=>hblk k hk (by omega);have hT6:Tn p w w6:=(HTn.out.trans hT05).grew hg6 fun k e=>by have:=hown k e;omega
    obtain⟨m0,_,_,_,_,⟨g0,_,_,_,_⟩,hlt6⟩:=row5 hbx6;have HFin:Hid (RunW w p q B n1 ro dn st1 (ks++[x]) (w6.setCell ⟨B,0,none⟩ (.slice a6 n6 c6))):=by
     have hT:=(Tn.refl B w6).setCell (x:=⟨B,0,none⟩) (Or.inl rfl) (.slice a6 n6 c6);refine⟨hR6.stay hT.size hp fun k hk hkq=>hT.block k hk (by omega),HBel.out _ _ hT6 hT (by omega),?_,_,set_row (j:=0) hbx6 _,hO6.stay hT.size fun k hk hkb=>hT.block k hk (by omega)⟩;rw[hT.block _ (by omega) (by omega)];exact hres6
    have HRn:=hide hrun;clear hkv5 hrun hO6 hg6 hown hblk hbx6 hres6 hR6 hT6 hR5 hT5 hT05 hbx5 hst5 hsb5 hsv;refine wpAnyH_ready (rs:=[5]) (by kernel_rfl) (by simp) ?_;refine held_append (i:=5) rfl rfl rfl (.tmp 26) (.tmp 29) 24 24 rfl rfl _ _ _ _ rfl rfl HRn.out trivial (fun hHeld=> ?_) AllReadyH.nil;refine take_yes (i:=6) (d:=some 31) (v:= ?_) rfl rfl hHeld ?_ ?_;rotate_left;focus intro w hSw;(try dsimp only at hSw);go_simp;try with_reducible rfl
    simp only[aput];refine wpAnyH_ready (rs:=[7]) (by kernel_rfl) (by simp) ?_;refine AllReadyH.cons rfl (fun K' hK=> ?_) AllReadyH.nil;go_simp;refine hK.out _ _ trivial (fun hHeld=> ?_);clear hK K' hHeld;refine wpAnyH_done (by kernel_rfl) ?_ _;go_wp2
    go_roundg g
    case measure=>omega
    case rel=>exact⟨j+1,by omega,by go_num,by rw[size_setCell];omega,ks++[x],st1,(by show _=_;rw[List.length_append,hl5];rfl),HE1,HFin⟩
  ·have hg0:gk=0:=by omega
   subst hg0;have hE:rFacts n5 s5=(ks,st):=by have:=HEq.out;rw[this];simp[rFacts]
   have HX2:Hid (rRun s=(⟨ks,(rNews ks st).1,n1,ro,dn⟩,(rNews ks st).2)):=by
    show _=_;rw[HX.out,hE,←HRo.out]
   have HKs:Hid (ks.length<256):=by have:=HTl.out;show _<_;omega
   have hkn:an=ks.length:=by obtain⟨a,c,e⟩:=hkv.slice;simp only[Value.slice.injEq] at e;exact e.2.1
   subst hkn;have HK:=hide hkv;have HW0:Hid (NewW w wr p q B n1 ro dn (.slice aa ks.length ac) st [] wr):=⟨hF.rd,hTn,hres,Nat.le_refl _,fun _ _ _=>rfl,.slice none 0 0,hbx,NewR.nil _ _ _⟩;clear hE hF hkv hbx hres hTn HEq HW HX HRo HTl hj;generalize wr=wK at*;go_wp2;clear b0 b1 b2 b3 b4 f0 f1 f2 f3 f4 hlt
   go_loopg [36] ks.length (fun g i wr=>∃j:Nat,j+g=ks.length∧i=.int .i64 j∧∃st2 N,Hid (N.length≤j)∧Hid (rNews ks st=(N++(rNews (ks.drop j) st2).1,(rNews (ks.drop j) st2).2))∧Hid (NewW w wK p q B n1 ro dn (.slice aa ks.length ac) st2 N wr))
   case atStart=>exact⟨0,by omega,rfl,st,[],(Nat.le_refl _:_≤_),(rfl:_=_),HW0⟩
   case round=>
    clear HW0;obtain⟨j,hj,rfl,st2,N,HNl,HEq,HW⟩:=hrel;have hF:=HW.out;obtain⟨nv,hbx,hnv⟩:=hF.box;have hres:=hF.res;have hTn:=hF.tn;have hzk:=hF.size;obtain⟨b0,b1,b2,b3,b4,⟨f0,f1,f2,f3,f4⟩,hltB'⟩:=row5 hbx;obtain⟨ba,bn,bc,rfl⟩:∃a n c,nv=.slice a n c:=by obtain⟨a,c,e⟩:=hnv.slice;exact⟨a,_,c,e⟩
    have hks:=HKs.out
    by_cases hlt:j<ks.length
    ·obtain⟨f,hf⟩:∃f,ks[j]?=some f:=⟨_,List.getElem?_eq_getElem hlt⟩;obtain⟨g0,sv,rfl,hg1,hg2,hc0,hc1,hsv,hsl⟩:=HK.out.get hf;have d0:wr.cell? ⟨g0,j*2,none⟩=some (.string f.1):=by rw[World.cell?_of_block (w:=wK) (a:=⟨g0,j*2,none⟩) (hF.keep g0 hg2 hg1)];exact hc0
     have d1:wr.cell? ⟨g0,j*2+1,none⟩=some sv:=by rw[World.cell?_of_block (w:=wK) (a:=⟨g0,j*2+1,none⟩) (hF.keep g0 hg2 hg1)];exact hc1
     obtain⟨sa,sc,rfl⟩:=sliceStr hsv;obtain⟨fl,st3,hfl⟩:∃fl st3,rFlag st2=(fl,st3):=⟨_,_,rfl⟩;have hst:=rNews_step hf st2;rw[hfl] at hst;have HSt:=hide hst;obtain⟨wf,hwf⟩:∃wf,wf=wr.alloc (.cells #[.string f.1,.slice sa f.2.length sc] 27):=⟨_,rfl⟩;have hLf:Later wr wf:=by rw[hwf];exact(Later.refl wr).alloc _
     have hRf:wf.heap[wr.heap.size]?=some (.cells #[.string f.1,.slice sa f.2.length sc] 27 (0,0)):=by rw[hwf];exact heap_alloc_new wr _
     have hltf:=(Array.getElem?_eq_some_iff.1 hRf).1;have htx:=flagRC p q st2 wf (hF.rd.below hLf.below);rw[hfl] at htx;have HTx:=hide htx;have HNv:=hide hnv;have HBx:=hide hbx;have HRes:=hide hres;have HTn:=hide hTn;have HLf:=hide hLf;have HRf:=hide hRf;have HWf:=hide hwf;have HKp:=hide hF.keep;have HSv:=hide hsv;have HSl:=hide hsl;clear hF hnv hbx hres hTn htx hfl hst hwf hLf hRf HW hc0 hc1 hf hsv hsl
     go_wp2_with (first|(rw[←HWf.out])|fail)
     refine HTx.out.mono ?_;rintro e w5 ⟨rfl,hR5,hT5⟩;have hT05:Tn p wr w5:=(Tn.of_below HLf.out.below).trans hT5;have hzf:=HLf.out.size;have hz5':=hT5.size;have hbx5:=(hT05.block B hltB' (by omega)).trans HBx.out;have hrf5:=(hT5.block wr.heap.size hltf (by omega)).trans HRf.out;have hnv5:NewR (B+1) wK.heap.size w5 (.slice ba bn bc) N:=HNv.out.stay (by omega) hT05.size fun k hk hkb=>hT05.block k hk (by omega);have hkp5:∀k,k<wK.heap.size→B+1≤k→w5.heap[k]?=wK.heap[k]?:=fun k hk hkb=>(hT05.block k (by omega) (by omega)).trans (HKp.out k hk hkb);have hres5:=(hT05.block _ (by omega) (by omega)).trans HRes.out;have hT5w:=HTn.out.trans hT05;dsimp only;clear d0 d1 b0 b1 b2 b3 b4 f0 f1 f2 f3 f4 hT05 hT5 HTx;cases fl with
     |false=>
      have HFin:Hid (NewW w wK p q B n1 ro dn (.slice (some ⟨g0,0,none⟩) ks.length ac) st3 N w5):=⟨hR5,hT5w,hres5,by omega,hkp5,_,hbx5,hnv5⟩;have HE2:Hid (rNews ks st=(N++(rNews (ks.drop (j+1)) st3).1,(rNews (ks.drop (j+1)) st3).2)):=by
       show _=_;rw[HEq.out,HSt.out];rfl
      clear hR5 hT5w hres5 hkp5 hbx5 hnv5 hrf5 HEq HSt;go_wp2
      go_roundg (ks.length- (j+1))
      case measure=>omega
      case rel=>exact⟨j+1,by omega,by go_num,st3,N,(by have:=HNl.out;show _≤_;omega),HE2,HFin⟩
     |true=>
      have hst5:Strs w5 (.slice sa f.2.length sc) f.2:=HSv.out.kept' (by omega) fun k hk e=>hkp5 k hk (HSl.out k e).1;obtain⟨v6,w6,hrun,hO6,hg6⟩:=NewR.append hnv5 f (.slice sa f.2.length sc) hst5 (HSl.out) (by have:=HNl.out;omega) (by omega) rfl;obtain⟨a6,n6,c6,rfl⟩:∃a n c,v6=.slice a n c:=by obtain⟨a,c,e⟩:=hO6.slice;exact⟨a,_,c,e⟩
      have hown:∀k,(Value.slice ba bn bc).ownBlock=some k→wK.heap.size≤k:=fun k e=>(hnv5.lt e).1;have hblk:∀k,k<wK.heap.size→w6.heap[k]?=w5.heap[k]?:=fun k hkb=>
       (hg6.block k (by simp;omega) (fun e=>by have:=hown k e.symm;omega)).trans (Below.heap_alloc w5 _ k (by omega))
      have hz6':w5.heap.size≤w6.heap.size:=Nat.le_trans (by simp) hg6.size;have hzB:B<wK.heap.size:=by omega
      have hbx6:=(hblk B hzB).trans hbx5;have hres6:=(hblk w.heap.size (by omega)).trans hres5;have hR6:RdB w6 p q st3:=RdB.stay hR5 hz6' hp fun k hk hkq=>hblk k (by omega);have hT6:Tn p w w6:=hT5w.grew hg6 fun k e=>by have:=hown k e;omega
      obtain⟨m0,m1,m2,m3,m4,⟨g0',g1,g2,g3,g4⟩,hlt6⟩:=row5 hbx6;obtain⟨c0,c1,c2,c3,c4,_,_⟩:=row5 hbx5;obtain⟨e0,e1,_,_,_⟩:=rowB hrf5;have e1':w5.cell? ⟨wr.heap.size,0+1,none⟩=some (.slice sa f.2.length sc):=e1;have HFin:Hid (NewW w wK p q B n1 ro dn (.slice (some ⟨g0,0,none⟩) ks.length ac) st3 (N++[f]) (w6.setCell ⟨B,1,none⟩ (.slice a6 n6 c6))):=by
       have hT:=(Tn.refl B w6).setCell (x:=⟨B,1,none⟩) (Or.inl rfl) (.slice a6 n6 c6);have hzT:=hT.size;refine⟨hR6.stay hT.size hp fun k hk hkq=>hT.block k hk (by omega),HBel.out _ _ hT6 hT (by omega),?_,by omega,fun k hk hkb=> ?_,_,set_row (j:=1) hbx6 _,hO6.stay (by omega) hT.size fun k hk hkb=>hT.block k hk (by omega)⟩
       ·rw[hT.block _ (by omega) (by omega)];exact hres6
       ·rw[hT.block k (by omega) (by omega),hblk k hk];exact hkp5 k hk hkb
      have HE2:Hid (rNews ks st=((N++[f])++(rNews (ks.drop (j+1)) st3).1,(rNews (ks.drop (j+1)) st3).2)):=by
       show _=_;rw[HEq.out,HSt.out,List.append_assoc];rfl
      have HRn:=hide hrun;have hszs:w.heap.size<w6.heap.size:=by omega
      clear hR5 hT5w hres5 hkp5 hbx5 hnv5 hrf5 HEq HSt hrun hO6 hg6 hown hblk hbx6 hres6 hR6 hT6 hst5
      go_wp2_with (at_builtin;refine wpList_append_run rfl (.tmp 43) (.tmp 45) 24 rfl _ _ _ _ rfl rfl HRn.out ?_)
      go_roundg (ks.length- (j+1))
      case measure=>omega
      case rel=>exact⟨j+1,by omega,by go_num,st3,N++[f],(by have:=HNl.out;show _≤_;simp;omega),HE2,HFin⟩
    ·have hE:rNews ks st=(N,st2):=by
      have:=HEq.out;rw[this,List.drop_eq_nil_of_le (by omega)];simp[rNews]
     have HX3:Hid (rRun s=(⟨ks,N,n1,ro,dn⟩,st2)):=by show _=_;rw[HX2.out,hE]
     have hnl:=HNl.out;have HOw:=hide (ownC (.slice ba bn bc) N wr (hnv.facts (by omega)));have HK2:Hid (OwnF wr (B+1) (.slice aa ks.length ac) ks):=HK.out.stay hzk fun k hk hkb=>hF.keep k hk hkb;have HBx:=hide hbx;have HRes:=hide hres;have HTn:=hide hTn;have HRd:=hide hF.rd;clear hE hF hnv hbx hres hTn HEq HW HK HX2
     go_wp2_with fail
     refine HOw.out.mono ?_;rintro e w7 ⟨v7,rfl,hO7,hL7⟩;have hz7':=hL7.size;have hbx7:=(hL7.block hltB').trans HBx.out;have hres7:=(hL7.block (by omega)).trans HRes.out;obtain⟨a7,c7,rfl⟩:=hO7.slice;have hT8:Tn B w7 (w7.setCell ⟨B,1,none⟩ (.slice a7 N.length c7)):=(Tn.refl B w7).setCell (Or.inl rfl) _;have hbx8:(w7.setCell ⟨B,1,none⟩ (.slice a7 N.length c7)).heap[B]?=some (.cells #[.slice aa ks.length ac,.slice a7 N.length c7,.int .i64 n1,.int .i64 ro,.bool dn] 47 (0,0)):=set_row (j:=1) hbx7 _;have hres8:(w7.setCell ⟨B,1,none⟩ (.slice a7 N.length c7)).heap[w.heap.size]?=some (.cells #[.slice none 0 0,.slice none 0 0,.int .i64 0,.int .i64 0,.bool false] 47 (0,0)):=(hT8.block _ (by omega) (by omega)).trans hres7;clear b0 b1 b2 b3 b4 f0 f1 f2 f3 f4;obtain⟨b0,b1,b2,b3,b4,⟨f0,f1,f2,f3,f4⟩,_⟩:=row5 hbx7;obtain⟨d0,d1,d2,d3,d4,⟨g0,g1,g2,g3,g4⟩,hlt8⟩:=row5 hbx8;obtain⟨e0,e1,e2,e3,e4,⟨h0,h1,h2,h3,h4⟩,_⟩:=row5 hres8;have HR8:=hide hres8;have HO7:Hid (OwnF (w7.setCell ⟨B,1,none⟩ (.slice a7 N.length c7)) (B+1) (.slice a7 N.length c7) N):=(hO7.base (by omega)).stay hT8.size fun k hk hkb=>hT8.block k hk (by omega);have HK7:Hid (OwnF (w7.setCell ⟨B,1,none⟩ (.slice a7 N.length c7)) (B+1) (.slice aa ks.length ac) ks):=(HK2.out.later hL7).stay hT8.size fun k hk hkb=>hT8.block k hk (by omega);have HR7:Hid (RdB (w7.setCell ⟨B,1,none⟩ (.slice a7 N.length c7)) p q st2):=(HRd.out.below hL7.below).stay hT8.size hp fun k hk hkb=>hT8.block k hk (by omega)
     have HT7:Hid (Tn p w (w7.setCell ⟨B,1,none⟩ (.slice a7 N.length c7))):=HBel.out _ _ (HTn.out.trans (Tn.of_below hL7.below)) hT8 (by omega);have hz8':=hT8.size;clear hO7 hL7 hbx7 hres7 hT8 hbx8 hres8 HOw HK2 HBx HRes HTn HRd;generalize hw8:w7.setCell ⟨B,1,none⟩ (.slice a7 N.length c7)=w8 at*;have HW8:=hide hw8.symm;clear hw8
     go_wp2_with (rw[←HW8.out])
     obtain⟨r0,r1,r2,r3,r4⟩:=set5 HR8.out (.slice aa ks.length ac) (.slice a7 N.length c7) (.int .i64 n1) (.int .i64 ro) (.bool dn);have hT:=put5_tn w8 w.heap.size (.slice aa ks.length ac) (.slice a7 N.length c7) (.int .i64 n1) (.int .i64 ro) (.bool dn);exact bodyPost_ret (v:=.agg #[.slice aa ks.length ac,.slice a7 N.length c7,.int .i64 n1,.int .i64 ro,.bool dn]) (by simp[results,Tryz.results132,go_sem,r0,r1,r2,r3,r4]) rfl
      ⟨_,rfl,by rw[HX3.out];exact⟨_,_,rfl,(HK7.out.put5 (R:=w.heap.size) (by omega)).base (by omega),(HO7.out.put5 (R:=w.heap.size) (by omega)).base (by omega)⟩,
       by rw[HX3.out];exact HR7.out.stay hT.size hp fun k hk hkb=>hT.block k hk (by omega),
       ⟨hT.os.trans HT7.out.os,hT.tape.trans HT7.out.tape,hT.output.trans HT7.out.output,Nat.le_trans HT7.out.size hT.size,fun k hk hkp=>(hT.block k (by omega) (by omega)).trans (HT7.out.block k hk hkp)⟩⟩
end Go.Proofs.YtafmbokfkbccaaaGreatDoor
namespace Go.Proofs.YtafmbokfkbccaaaGreatDoor
open Go.RowKit Go.Sort Go.Maps
def forE (p:List RuleD) (l:List FactB):Int:=if(strataP p).2.1≠0 then(strataP p).2.1 else(factsP p l).1
theorem forE_zero {p:List RuleD} {l:List FactB} (h:forE p l=0):RightP p∧GoodS p l∧∃τ:Bs→Nat,Sol p τ∧strataP p=(p.map fun r=>τ r.head.name,0,(strataP p).2.2)∧∀r∈p,τ r.head.name<16:=by
 unfold forE at h;split at h
 ·rename_i h1;exact absurd h h1
 ·rename_i h1;have h1:(strataP p).2.1=0:=Classical.byContradiction h1;obtain⟨ss,ex,ea,hse⟩:∃ss ex ea,strataP p=(ss,ex,ea):=⟨_,_,_,rfl⟩;rw[hse] at h1;have h1:ex=0:=h1;subst h1;obtain⟨hw0,m,hms,hdm,hlm,hsm⟩:=strataP_ok hse;have hp:=rightP_iff.1 hw0;refine⟨hp,facts_good h,numOf m,hsm,?_,fun r hr=> ?_⟩
  ·rw[hse,hms];rfl
  ·have:=lev_small hlm hsm r hr;have:=hp.few;omega
theorem Kind.sl_far {α:Type} {K:Kind α} {b:Nat} {w w':World} {v:Value} {l:List α} (h:K.sl (From b) w v l) (k:Below w.heap.size w w'):K.sl (From b) w' v l:=Kind.sl_kept h k.size fun i hi _=>k.block i hi
def ForT (b:Nat) (w:World) (v:Value) (p:List RuleD) (l:List FactB):Prop:=(∃a n c,v=.slice a n c)∧(forE p l=0→intK.sl (From b) w v (strataP p).1)
set_option maxRecDepth 100000 in
set_option maxHeartbeats 4000000 in
theorem strataForC (p:List RuleD) (l:List FactB) (pv fv:Value) (w:World) (hv:ruleK.sl Anyw w pv p) (hf:Facts w fv l):
  Calls Tryz.prog 81 #[pv,fv] w fun e w'=>∃v',e=.returned (.tuple #[v',.int .i64 (forE p l)])∧ForT w.heap.size w' v' p l∧Below w.heap.size w w':=by
 have HSt:=hide (strataC p pv w hv);obtain⟨pa,pc,rfl⟩:=Kind.slice hv;obtain⟨fa,fc,rfl⟩:=sliceFacts hf;have HV:=hide hv;have HF:=hide hf;clear hv hf;obtain⟨ss,ex,ea,hse⟩:∃ss ex ea,strataP p=(ss,ex,ea):=⟨_,_,_,rfl⟩;rw[hse] at HSt;have HSE:=hide hse;clear hse
 go_enter Tryz.func81,Tryz.ntmps81
 go_wp2_with fail
 refine HSt.out.mono ?_;rintro e w1 ⟨u,rfl,hu,hB1⟩;dsimp only at hu⊢;have HU:Hid (intK.sl (From w.heap.size) w1 u ss):=hu;obtain⟨ua,uc,rfl⟩:=Kind.slice hu;have HB1:=hide hB1;clear hu hB1 HSt
 by_cases h0:ex=0
 ·subst h0;obtain⟨hw0,m,hms,hdm,hlm,hsm⟩:=strataP_ok HSE.out;have hp:=rightP_iff.1 hw0;obtain⟨w2,hw2⟩:∃w2,w2=w1.alloc (.cells #[.int .i64 0,.int .i64 (ea:Nat)] 75):=⟨_,rfl⟩;have hL2:Later w1 w2:=by rw[hw2];exact(Later.refl _).alloc _
  have hB2:Below w.heap.size w w2:=below_trans HB1.out hL2.below HB1.out.size;have HFC:=hide (naiveFactsC p hp (.slice pa p.length pc) (.slice fa l.length fc) l w2 (Kind.sl_below HV.out hB2) (HF.out.below hB2));obtain⟨fx,fe,hfe⟩:∃fx fe,factsP p l=(fx,fe):=⟨_,_,rfl⟩;rw[hfe] at HFC;have HFE:=hide hfe;have HB2:=hide hB2;have HU2:=hide (Kind.sl_far HU.out hL2.below);have HW2:=hide hw2;have HX:Hid (forE p l=fx):=by show _=_;unfold forE;rw[HSE.out,HFE.out];simp
  clear hw0 hms hdm hlm hsm hp hL2 hB2 hfe hw2 HB1 HU
  go_wp2_with fail
  rw[←HW2.out];refine HFC.out.mono ?_;rintro e w3 ⟨rfl,hB3⟩;dsimp only;have HB3:Hid (Below w.heap.size w w3):=below_trans HB2.out hB3 HB2.out.size;have HU3:=hide (Kind.sl_far HU2.out hB3);clear hB3 HFC HW2 HB2 HU2;have HB4:Hid (Below w.heap.size w (w3.alloc (.cells #[.int .i64 fx,.int .i64 fe] 75))):=below_trans HB3.out ((Later.refl _).alloc _).below HB3.out.size
  by_cases h1:fx=0
  ·subst h1;have HT:Hid (ForT w.heap.size (w3.alloc (.cells #[.int .i64 0,.int .i64 fe] 75)) (.slice ua ss.length uc) p l):=⟨⟨_,_,_,rfl⟩,fun _=>by rw[HSE.out];exact Kind.sl_far HU3.out ((Later.refl _).alloc _).below⟩;clear HSE HFE HV HF HU3;go_wp2;exact bodyPost_ret (v:=.tuple #[.slice ua ss.length uc,.int .i64 0]) (by simp[results,Tryz.results81,go_sem]) rfl ⟨_,by rw[HX.out],HT.out,HB4.out⟩
  ·have HT:Hid (∀w',ForT w.heap.size w' (.slice none 0 0) p l):=fun w'=>⟨⟨_,_,_,rfl⟩,fun h=>absurd (HX.out.symm.trans h) h1⟩;have hne:(fx != 0)=true:=by simpa using h1
   clear HSE HFE h1 HV HF HU3;go_wp2
   go_quiet (fail)
   go_wp2;exact bodyPost_ret (v:=.tuple #[.slice none 0 0,.int .i64 fx]) (by simp[results,Tryz.results81,go_sem]) rfl ⟨_,by rw[HX.out],HT.out _,below_drewN HB4.out _⟩
 ·have HX:Hid (forE p l=ex):=by show _=_;unfold forE;rw[HSE.out];simp[h0]
  have HT:Hid (∀w',ForT w.heap.size w' (.slice none 0 0) p l):=fun w'=>⟨⟨_,_,_,rfl⟩,fun h=>absurd (HX.out.symm.trans h) h0⟩;have hne:(ex != 0)=true:=by simpa using h0
  have HB4:Hid (Below w.heap.size w (w1.alloc (.cells #[.int .i64 ex,.int .i64 (ea:Nat)] 75))):=below_trans HB1.out ((Later.refl _).alloc _).below HB1.out.size;clear HSE h0 HV HF HU;go_wp2
  go_quiet (fail)
  go_wp2;exact bodyPost_ret (v:=.tuple #[.slice none 0 0,.int .i64 ex]) (by simp[results,Tryz.results81,go_sem]) rfl ⟨_,by rw[HX.out],HT.out _,below_drewN HB4.out _⟩
end Go.Proofs.YtafmbokfkbccaaaGreatDoor
namespace Go.Proofs.YtafmbokfkbccaaaGreatDoor
open Go.RowKit Go.Sort Go.Maps
set_option maxHeartbeats 400000 in
theorem withinC (n m:Int) (w:World):Calls Tryz.prog 83 #[.int .i64 n,.int .i64 m] w fun e w'=>e=.returned (.bool (decide (0≤n)&&decide (n≤m)))∧w'=w:=by
 by_cases h:0≤n
 ·have e:(decide (0≤n)&&decide (n≤m))=decide (n≤m):=by simp[h]
  rw[e];clear e
  go_enter Tryz.func83,Tryz.ntmps83
  go_wp2;go_ret;exact⟨rfl,rfl⟩
 ·have e:(decide (0≤n)&&decide (n≤m))=false:=by simp[h]
  rw[e];clear e;have h':decide (0≤n)=false:=by simp[h]
  go_enter Tryz.func83,Tryz.ntmps83
  go_wp2;go_ret;exact⟨rfl,rfl⟩
set_option maxRecDepth 100000 in
set_option maxHeartbeats 4000000 in
theorem ownedC (r:RunD) (kv nv:Value) (w:World) (hk:Facts w kv r.known) (hn:Facts w nv r.fresh):
  Calls Tryz.prog 84 #[.agg #[kv,nv,.int .i64 r.level,.int .i64 r.rounds,.bool r.done]] w fun e w'=>∃v',e=.returned v'∧RunO (w.heap.size+2) w' v' r∧Below w.heap.size w w':=by
 obtain⟨K,N,lev,rn,dn⟩:=r;dsimp only at*;obtain⟨ka,kc,rfl⟩:=sliceFacts hk;obtain⟨na,nc,rfl⟩:=sliceFacts hn;have hkl:=hk.1;have hnl:=hn.1;obtain⟨w2,hw2⟩:∃w2,w2=(w.alloc (.cells #[.slice ka K.length kc,.slice na N.length nc,.int .i64 lev,.int .i64 rn,.bool dn] 47)).alloc (.cells #[.slice none 0 0,.slice none 0 0,.int .i64 0,.int .i64 0,.bool false] 47):=⟨_,rfl⟩;have hL2:Later w w2:=by rw[hw2];exact((Later.refl w).alloc _).alloc _
 have hz2:w2.heap.size=w.heap.size+2:=by rw[hw2];simp
 have hrb:w2.heap[w.heap.size]?=some (.cells #[.slice ka K.length kc,.slice na N.length nc,.int .i64 lev,.int .i64 rn,.bool dn] 47 (0,0)):=by
  rw[hw2,Below.heap_alloc _ _ _ (by simp)];exact heap_alloc_new w _
 have hrs:w2.heap[w.heap.size+1]?=some (.cells #[.slice none 0 0,.slice none 0 0,.int .i64 0,.int .i64 0,.bool false] 47 (0,0)):=by
  have:=heap_alloc_new (w.alloc (.cells #[.slice ka K.length kc,.slice na N.length nc,.int .i64 lev,.int .i64 rn,.bool dn] 47)) (.cells #[.slice none 0 0,.slice none 0 0,.int .i64 0,.int .i64 0,.bool false] 47);rw[hw2];simpa using this
 have HRow:Hid (∀w',Below w2.heap.size w2 w'→w'.heap[w.heap.size]?=some (.cells #[.slice ka K.length kc,.slice na N.length nc,.int .i64 lev,.int .i64 rn,.bool dn] 47 (0,0))):=fun w' h=>(h.block _ (by omega)).trans hrb;have HRs:Hid (∀w',Below w2.heap.size w2 w'→w'.heap[w.heap.size+1]?=some (.cells #[.slice none 0 0,.slice none 0 0,.int .i64 0,.int .i64 0,.bool false] 47 (0,0))):=fun w' h=>(h.block _ (by omega)).trans hrs;have HC:Hid (∀w',Below w2.heap.size w2 w'→w'.cell? ⟨w.heap.size,0,none⟩=some (.slice ka K.length kc)∧w'.cell? ⟨w.heap.size,1,none⟩=some (.slice na N.length nc)):=fun w' h=>⟨(row5 (HRow.out _ h)).1,(row5 (HRow.out _ h)).2.1⟩;have HO0:Hid (∀w',Below w2.heap.size w2 w'→Calls Tryz.prog 67 #[.slice ka K.length kc] w' fun e w''=>∃v',e=.returned v'∧OwnF w'' (w.heap.size+2) v' K∧Below w2.heap.size w2 w''):=fun w' h=>
  (ownC (.slice ka K.length kc) K w' ((hk.later hL2).below h)).mono fun e w'' ⟨v',he,hO,hL⟩=>⟨v',he,hO.base (by have:=h.size;omega),below_trans h hL.below h.size⟩
 have HO1:Hid (∀w',Below w2.heap.size w2 w'→Calls Tryz.prog 67 #[.slice na N.length nc] w' fun e w''=>∃v',e=.returned v'∧OwnF w'' (w.heap.size+2) v' N∧Below w2.heap.size w2 w''∧∀b v l,OwnF w' b v l→OwnF w'' b v l):=fun w' h=>
  (ownC (.slice na N.length nc) N w' ((hn.later hL2).below h)).mono fun e w'' ⟨v',he,hO,hL⟩=>⟨v',he,hO.base (by have:=h.size;omega),below_trans h hL.below h.size,fun b v l hh=>hh.later hL⟩
 have HL2:=hide hL2;have HW2:=hide hw2;clear hk hn hL2 hrb hrs hw2
 go_enter Tryz.func84,Tryz.ntmps84
 go_wp2;rw[←HW2.out];have hBe:Below w2.heap.size w2 w2.drew:=(Below.refl _ _).drew;clear HW2;refine wp_region_held_drew (S:=fun w'=>Tn w.heap.size w2 w') (by kernel_rfl) (Tn.of_below hBe) (fun hHeld=> ?_);refine take_yes (i:=0) (d:=some 3) (v:= ?_) rfl rfl hHeld ?_ ?_;rotate_left;focus intro w hSw;(try dsimp only at hSw);go_simp;try with_reducible rfl
 simp only[aput,aset,aze,asu];refine take_yes (i:=3) (d:=some 6) (v:= ?_) rfl rfl hHeld ?_ ?_;rotate_left;focus intro w hSw;(try dsimp only at hSw);go_simp;try with_reducible rfl
 simp only[aput,aset,aze,asu];refine wpAnyH_ready (rs:=[1,4]) (by kernel_rfl) (by simp) ?_;refine AllReadyH.cons rfl (fun K' hK=> ?_) (AllReadyH.cons rfl (fun K' hK=> ?_) AllReadyH.nil)
 ·have q0:=(HC.out _ hBe).1;go_simp;refine hK.out _ _ hHeld (fun hHeld=> ?_);clear hK K' q0;refine wpAnyH_ready (rs:=[2,4]) (by kernel_rfl) (by simp) ?_;refine AllReadyH.cons rfl (fun K' hK=> ?_) (AllReadyH.cons rfl (fun K' hK=> ?_) AllReadyH.nil)
  ·go_simp;refine(HO0.out _ hBe).mono ?_;rintro e wx ⟨v1,rfl,hO1,hB1⟩;obtain⟨a1,c1,rfl⟩:=hO1.slice;refine hK.out _ _ (Tn.of_below hB1) (fun hHeld=> ?_);clear hK K' hBe;have hBe:=hB1;refine wpAnyH_ready (rs:=[4]) (by kernel_rfl) (by simp) ?_;refine AllReadyH.cons rfl (fun K' hK=> ?_) AllReadyH.nil;have q0:=(HC.out _ hBe).2;go_simp;refine hK.out _ _ hHeld (fun hHeld=> ?_);clear hK K' q0;refine take_yes (i:=6) (d:=some 9) (v:= ?_) rfl rfl hHeld ?_ ?_;rotate_left;focus intro w hSw;(try dsimp only at hSw);go_simp;try with_reducible rfl
   simp only[aput,aset,aze,asu];refine wpAnyH_ready (rs:=[5]) (by kernel_rfl) (by simp) ?_;refine AllReadyH.cons rfl (fun K' hK=> ?_) AllReadyH.nil;go_simp;refine(HO1.out _ hBe).mono ?_;rintro e wy ⟨v2,rfl,hO2,hB2,hst⟩;obtain⟨a2,c2,rfl⟩:=hO2.slice;refine hK.out _ _ (Tn.of_below hB2) (fun hHeld=> ?_);clear hK K';have hO12:=hst _ _ _ hO1;clear hst hO1 hBe hB1;refine wpAnyH_ready (rs:=[7]) (by kernel_rfl) (by simp) ?_;refine AllReadyH.cons rfl (fun K' hK=> ?_) AllReadyH.nil;obtain⟨b0,b1,b2,b3,b4,⟨g0,g1,g2,g3,g4⟩,_⟩:=row5 (HRow.out _ hB2);obtain⟨q0,q1,q2,q3,q4,⟨f0,f1,f2,f3,f4⟩,_⟩:=row5 (HRs.out _ hB2);go_simp;refine hK.out _ _ (Tn.setCell (p:=w.heap.size) (Tn.of_below hB2) (x:=⟨w.heap.size,0,none⟩) (Or.inl rfl) _) (fun hHeld=> ?_);clear hK K';refine take_yes (i:=8) (d:=some 10) (v:= ?_) rfl rfl hHeld ?_ ?_;rotate_left;focus intro w hSw;(try dsimp only at hSw);go_simp;try with_reducible rfl
   simp only[aput,aset,aze,asu];refine wpAnyH_ready (rs:=[9]) (by kernel_rfl) (by simp) ?_;refine AllReadyH.cons rfl (fun K' hK=> ?_) AllReadyH.nil;go_simp;refine hK.out _ _ (Tn.setCell (p:=w.heap.size) (Tn.setCell (p:=w.heap.size) (Tn.of_below hB2) (x:=⟨w.heap.size,0,none⟩) (Or.inl rfl) _) (x:=⟨w.heap.size,1,none⟩) (Or.inl rfl) _) (fun hHeld=> ?_);clear hK K' hHeld;refine wpAnyH_done (by kernel_rfl) ?_ _;have HR5:Hid (((wy.setCell ⟨w.heap.size,0,none⟩ (.slice a1 K.length c1)).setCell ⟨w.heap.size,1,none⟩ (.slice a2 N.length c2)).heap[w.heap.size+1]?=some (.cells #[.slice none 0 0,.slice none 0 0,.int .i64 0,.int .i64 0,.bool false] 47 (0,0))):=by
    show _=_;rw[heap_setCell_other _ _ _ (by show w.heap.size+1≠w.heap.size;omega),heap_setCell_other _ _ _ (by show w.heap.size+1≠w.heap.size;omega)];exact HRs.out _ hB2
   have HBy:Hid (Below w.heap.size w wy):=below_trans HL2.out.below hB2 (by omega);have HOk:=hide hO12;have HOn:=hide hO2;clear hO12 hO2 hB2;go_wp2;obtain⟨r0,r1,r2,r3,r4⟩:=set5 HR5.out (.slice a1 K.length c1) (.slice a2 N.length c2) (.int .i64 lev) (.int .i64 rn) (.bool dn);exact bodyPost_ret (v:=.agg #[.slice a1 K.length c1,.slice a2 N.length c2,.int .i64 lev,.int .i64 rn,.bool dn]) (by simp[results,Tryz.results84,go_sem,r0,r1,r2,r3,r4]) rfl
    ⟨_,rfl,⟨_,_,rfl,OwnF.put5 ((HOk.out.put (by omega)).put (by omega)) (by omega),OwnF.put5 ((HOn.out.put (by omega)).put (by omega)) (by omega)⟩,Below.put5 (Below.put (Below.put HBy.out (Nat.le_refl _)) (Nat.le_refl _)) (Nat.le_succ _)⟩
  ·have q0:=(HC.out _ hBe).2;go_simp;refine hK.out _ _ hHeld (fun hHeld=> ?_);clear hK K' q0;refine wpAnyH_ready (rs:=[2]) (by kernel_rfl) (by simp) ?_;refine AllReadyH.cons rfl (fun K' hK=> ?_) AllReadyH.nil;go_simp;refine(HO0.out _ hBe).mono ?_;rintro e wx ⟨v1,rfl,hO1,hB1⟩;obtain⟨a1,c1,rfl⟩:=hO1.slice;refine hK.out _ _ (Tn.of_below hB1) (fun hHeld=> ?_);clear hK K' hBe;have hBe:=hB1;refine take_yes (i:=6) (d:=some 9) (v:= ?_) rfl rfl hHeld ?_ ?_;rotate_left;focus intro w hSw;(try dsimp only at hSw);go_simp;try with_reducible rfl
   simp only[aput,aset,aze,asu];refine wpAnyH_ready (rs:=[5]) (by kernel_rfl) (by simp) ?_;refine AllReadyH.cons rfl (fun K' hK=> ?_) AllReadyH.nil;go_simp;refine(HO1.out _ hBe).mono ?_;rintro e wy ⟨v2,rfl,hO2,hB2,hst⟩;obtain⟨a2,c2,rfl⟩:=hO2.slice;refine hK.out _ _ (Tn.of_below hB2) (fun hHeld=> ?_);clear hK K';have hO12:=hst _ _ _ hO1;clear hst hO1 hBe hB1;refine wpAnyH_ready (rs:=[7]) (by kernel_rfl) (by simp) ?_;refine AllReadyH.cons rfl (fun K' hK=> ?_) AllReadyH.nil;obtain⟨b0,b1,b2,b3,b4,⟨g0,g1,g2,g3,g4⟩,_⟩:=row5 (HRow.out _ hB2);obtain⟨q0,q1,q2,q3,q4,⟨f0,f1,f2,f3,f4⟩,_⟩:=row5 (HRs.out _ hB2);go_simp;refine hK.out _ _ (Tn.setCell (p:=w.heap.size) (Tn.of_below hB2) (x:=⟨w.heap.size,0,none⟩) (Or.inl rfl) _) (fun hHeld=> ?_);clear hK K';refine take_yes (i:=8) (d:=some 10) (v:= ?_) rfl rfl hHeld ?_ ?_;rotate_left;focus intro w hSw;(try dsimp only at hSw);go_simp;try with_reducible rfl
   simp only[aput,aset,aze,asu];refine wpAnyH_ready (rs:=[9]) (by kernel_rfl) (by simp) ?_;refine AllReadyH.cons rfl (fun K' hK=> ?_) AllReadyH.nil;go_simp;refine hK.out _ _ (Tn.setCell (p:=w.heap.size) (Tn.setCell (p:=w.heap.size) (Tn.of_below hB2) (x:=⟨w.heap.size,0,none⟩) (Or.inl rfl) _) (x:=⟨w.heap.size,1,none⟩) (Or.inl rfl) _) (fun hHeld=> ?_);clear hK K' hHeld;refine wpAnyH_done (by kernel_rfl) ?_ _;have HR5:Hid (((wy.setCell ⟨w.heap.size,0,none⟩ (.slice a1 K.length c1)).setCell ⟨w.heap.size,1,none⟩ (.slice a2 N.length c2)).heap[w.heap.size+1]?=some (.cells #[.slice none 0 0,.slice none 0 0,.int .i64 0,.int .i64 0,.bool false] 47 (0,0))):=by
    show _=_;rw[heap_setCell_other _ _ _ (by show w.heap.size+1≠w.heap.size;omega),heap_setCell_other _ _ _ (by show w.heap.size+1≠w.heap.size;omega)];exact HRs.out _ hB2
   have HBy:Hid (Below w.heap.size w wy):=below_trans HL2.out.below hB2 (by omega);have HOk:=hide hO12;have HOn:=hide hO2;clear hO12 hO2 hB2;go_wp2;obtain⟨r0,r1,r2,r3,r4⟩:=set5 HR5.out (.slice a1 K.length c1) (.slice a2 N.length c2) (.int .i64 lev) (.int .i64 rn) (.bool dn);exact bodyPost_ret (v:=.agg #[.slice a1 K.length c1,.slice a2 N.length c2,.int .i64 lev,.int .i64 rn,.bool dn]) (by simp[results,Tryz.results84,go_sem,r0,r1,r2,r3,r4]) rfl
    ⟨_,rfl,⟨_,_,rfl,OwnF.put5 ((HOk.out.put (by omega)).put (by omega)) (by omega),OwnF.put5 ((HOn.out.put (by omega)).put (by omega)) (by omega)⟩,Below.put5 (Below.put (Below.put HBy.out (Nat.le_refl _)) (Nat.le_refl _)) (Nat.le_succ _)⟩
 ·have q0:=(HC.out _ hBe).2;go_simp;refine hK.out _ _ hHeld (fun hHeld=> ?_);clear hK K' q0;refine wpAnyH_ready (rs:=[1]) (by kernel_rfl) (by simp) ?_;refine AllReadyH.cons rfl (fun K' hK=> ?_) AllReadyH.nil;have q0:=(HC.out _ hBe).1;go_simp;refine hK.out _ _ hHeld (fun hHeld=> ?_);clear hK K' q0;refine wpAnyH_ready (rs:=[2]) (by kernel_rfl) (by simp) ?_;refine AllReadyH.cons rfl (fun K' hK=> ?_) AllReadyH.nil;go_simp;refine(HO0.out _ hBe).mono ?_;rintro e wx ⟨v1,rfl,hO1,hB1⟩;obtain⟨a1,c1,rfl⟩:=hO1.slice;refine hK.out _ _ (Tn.of_below hB1) (fun hHeld=> ?_);clear hK K' hBe;have hBe:=hB1;refine take_yes (i:=6) (d:=some 9) (v:= ?_) rfl rfl hHeld ?_ ?_;rotate_left;focus intro w hSw;(try dsimp only at hSw);go_simp;try with_reducible rfl
  simp only[aput,aset,aze,asu];refine wpAnyH_ready (rs:=[5]) (by kernel_rfl) (by simp) ?_;refine AllReadyH.cons rfl (fun K' hK=> ?_) AllReadyH.nil;go_simp;refine(HO1.out _ hBe).mono ?_;rintro e wy ⟨v2,rfl,hO2,hB2,hst⟩;obtain⟨a2,c2,rfl⟩:=hO2.slice;refine hK.out _ _ (Tn.of_below hB2) (fun hHeld=> ?_);clear hK K';have hO12:=hst _ _ _ hO1;clear hst hO1 hBe hB1;refine wpAnyH_ready (rs:=[7]) (by kernel_rfl) (by simp) ?_;refine AllReadyH.cons rfl (fun K' hK=> ?_) AllReadyH.nil;obtain⟨b0,b1,b2,b3,b4,⟨g0,g1,g2,g3,g4⟩,_⟩:=row5 (HRow.out _ hB2);obtain⟨q0,q1,q2,q3,q4,⟨f0,f1,f2,f3,f4⟩,_⟩:=row5 (HRs.out _ hB2);go_simp;refine hK.out _ _ (Tn.setCell (p:=w.heap.size) (Tn.of_below hB2) (x:=⟨w.heap.size,0,none⟩) (Or.inl rfl) _) (fun hHeld=> ?_);clear hK K';refine take_yes (i:=8) (d:=some 10) (v:= ?_) rfl rfl hHeld ?_ ?_;rotate_left;focus intro w hSw;(try dsimp only at hSw);go_simp;try with_reducible rfl
  simp only[aput,aset,aze,asu];refine wpAnyH_ready (rs:=[9]) (by kernel_rfl) (by simp) ?_;refine AllReadyH.cons rfl (fun K' hK=> ?_) AllReadyH.nil;go_simp;refine hK.out _ _ (Tn.setCell (p:=w.heap.size) (Tn.setCell (p:=w.heap.size) (Tn.of_below hB2) (x:=⟨w.heap.size,0,none⟩) (Or.inl rfl) _) (x:=⟨w.heap.size,1,none⟩) (Or.inl rfl) _) (fun hHeld=> ?_);clear hK K' hHeld;refine wpAnyH_done (by kernel_rfl) ?_ _;have HR5:Hid (((wy.setCell ⟨w.heap.size,0,none⟩ (.slice a1 K.length c1)).setCell ⟨w.heap.size,1,none⟩ (.slice a2 N.length c2)).heap[w.heap.size+1]?=some (.cells #[.slice none 0 0,.slice none 0 0,.int .i64 0,.int .i64 0,.bool false] 47 (0,0))):=by
   show _=_;rw[heap_setCell_other _ _ _ (by show w.heap.size+1≠w.heap.size;omega),heap_setCell_other _ _ _ (by show w.heap.size+1≠w.heap.size;omega)];exact HRs.out _ hB2
  have HBy:Hid (Below w.heap.size w wy):=below_trans HL2.out.below hB2 (by omega);have HOk:=hide hO12;have HOn:=hide hO2;clear hO12 hO2 hB2;go_wp2;obtain⟨r0,r1,r2,r3,r4⟩:=set5 HR5.out (.slice a1 K.length c1) (.slice a2 N.length c2) (.int .i64 lev) (.int .i64 rn) (.bool dn);exact bodyPost_ret (v:=.agg #[.slice a1 K.length c1,.slice a2 N.length c2,.int .i64 lev,.int .i64 rn,.bool dn]) (by simp[results,Tryz.results84,go_sem,r0,r1,r2,r3,r4]) rfl
   ⟨_,rfl,⟨_,_,rfl,OwnF.put5 ((HOk.out.put (by omega)).put (by omega)) (by omega),OwnF.put5 ((HOn.out.put (by omega)).put (by omega)) (by omega)⟩,Below.put5 (Below.put (Below.put HBy.out (Nat.le_refl _)) (Nat.le_refl _)) (Nat.le_succ _)⟩
end Go.Proofs.YtafmbokfkbccaaaGreatDoor
