import Derived.Test.YtafmbokfkbccaaaGreatDoorJA36
import Derived.Test.YtafmbokfkbccaaaGreatDoorJA21
namespace Go.Proofs.YtafmbokfkbccaaaGreatDoor
open Go.RowKit Go.Sort
theorem PrB.wZ {w:World} {P:Nat} {pv tv av:Value} {c d:Int} {sv:Value} {m:Nat} (h:PrB w P pv tv av c d sv m) (hp:oC pv) (ht:oC tv) (ha:oC av) (hs:oC sv):q9 w P:=fun off s e=>by
 obtain⟨a1,n1,c1,rfl⟩:=hp;obtain⟨a2,n2,c2,rfl⟩:=ht;obtain⟨a3,n3,c3,rfl⟩:=ha;obtain⟨a4,n4,c4,rfl⟩:=hs;rw[cell_of_row _ _ _ _ _ _ h.row] at e;rcases off with _|_|_|_|_|_|_|off <;> simp at e
def vw (lo:Nat) (w:World) (sv:Value) (xs:List Value):Prop:=(xs=[]∧sv=.slice none 0 0)∨uO lo w sv xs
theorem vw.oC {lo:Nat} {w:World} {sv:Value} {xs:List Value} (h:vw lo w sv xs):oC sv:=by
 rcases h with⟨_,rfl⟩|⟨g,cap,cur,rfl,_⟩
 ·exact⟨_,_,_,rfl⟩
 ·exact⟨_,_,_,rfl⟩
theorem vw.lo {lo:Nat} {w:World} {sv:Value} {xs:List Value} (h:vw lo w sv xs):∀k,sv.ownBlock=some k→lo≤k∧k<w.heap.size:=fun k e=>by
 rcases h with⟨_,rfl⟩|h
 ·cases e
 ·exact h.owns.lt k e
theorem vw.more {lo:Nat} {w:World} {sv:Value} {xs:List Value} (h:vw lo w sv xs) (hlo:lo≤w.heap.size) {u:Value} (hu:Go.Proofs.YtafmbokfkbccaaaGreatDoor.oC u) (hl:xs.length+1≤1000000):
  ∃v' w',(Builtin.append_ #[113,113] 113 #[sv,.slice (some ⟨w.heap.size,0,none⟩) 1 1]).run Tryz.prog (w.alloc (.cells #[u] 24))=.ok v' w'∧uO lo w' v' (xs++[u])∧(w.alloc (.cells #[u] 24)).grownBy w' sv.ownBlock∧∀v l,Facts (w.alloc (.cells #[u] 24)) v l→Facts w' v l:=by
 rcases h with⟨rfl,rfl⟩|h
 ·obtain⟨v',w',h1,h2,h3⟩:=uO.first hlo hu
  refine⟨v',w',h1,h2,h3,fun v l hf=>hf.below ⟨h3.os,h3.tape,h3.output,h3.size,fun k hk=>h3.block k hk (fun e=>by cases e)⟩⟩
 ·obtain⟨v',w',h1,h2,h3⟩:=h.more hlo hu hl;refine⟨v',w',h1,h2,h3,fun v l hf=> ?_⟩;have hR:uO lo (w.alloc (.cells #[u] 24)) sv xs:=h.block fun k hk _=>Below.heap_alloc w _ k hk;exact CG hR h3 hf
set_option maxRecDepth 100000 in
set_option maxHeartbeats 4000000 in
theorem Sn (P lo:Nat) (pv tv av u sv:Value) (c d:Int) (mb:Nat) (xs:List Value) (w:World) (hP:PrB w P pv tv av c d sv mb) (hS:vw lo w sv xs) (Qy:P<lo) (hlw:lo≤w.heap.size) (hp:oC pv) (ht:oC tv) (ha:oC av) (hu:oC u) (hl:xs.length+1≤1000000):
  Calls Tryz.prog 102 #[.pointer (some ⟨P,0,none⟩),u] w fun e w'=>e=.returned (.tuple #[])∧∃sv',PrB w' P pv tv u c d sv' mb∧uO lo w' sv' (xs++[u])∧(∀v l,Facts w v l→Facts w' v l)∧(∀k,k<w.heap.size→k≠P→sv.ownBlock≠some k→w'.heap[k]?=w.heap[k]?)∧Below P w w':=by
 have hnt:=hP.wZ hp ht ha hS.oC;obtain⟨p0,p1,p2,p3,p4,p5,p6,hPl⟩:=hP.cells;obtain⟨wA,hwA⟩:∃wA,wA=w.setCell ⟨P,2,none⟩ u:=⟨_,rfl⟩;have hTA:Tn P w wA:=by rw[hwA];exact Tn.setCell (p:=P) (Tn.refl _ _) (x:=⟨P,2,none⟩) (Or.inl rfl) _
 have hRA:wA.heap[P]?=some (.cells #[pv,tv,u,.int .i64 c,.int .i64 d,sv,.map (some mb)] 115 (0,0)):=by rw[hwA,dZ (j:=2) hP.row];rfl
 have hSA:vw lo wA sv xs:=by
  rcases hS with e|h
  ·exact Or.inl e
  ·exact Or.inr (h.block fun k hk hlo=>hTA.block k hk (by omega))
 have hszA:=hTA.size;obtain⟨v',wB,hrun,hRB,hgB,hFB⟩:=hSA.more (by omega) hu hl;have Uq:=hSA.lo;have hlo:=hS.lo;have IK:wB.heap[P]?=some (.cells #[pv,tv,u,.int .i64 c,.int .i64 d,sv,.map (some mb)] 115 (0,0)):=by
  rw[hgB.block P (by simp;omega) (fun e=>by have:=(Uq P e.symm).1;omega),Below.heap_alloc _ _ _ (by omega)];exact hRA
 obtain⟨wC,hwC⟩:∃wC,wC=wB.setCell ⟨P,5,none⟩ v':=⟨_,rfl⟩;have hTC:Tn P wB wC:=by rw[hwC];exact Tn.setCell (p:=P) (Tn.refl _ _) (x:=⟨P,5,none⟩) (Or.inl rfl) _
 have hRC:wC.heap[P]?=some (.cells #[pv,tv,u,.int .i64 c,.int .i64 d,v',.map (some mb)] 115 (0,0)):=by rw[hwC,dZ (j:=5) IK];rfl
 have N7:=hgB.size;simp only[World.size_alloc] at N7;have Ur:uO lo wC v' (xs++[u]):=hRB.block fun k hk hlo=>hTC.block k hk (by omega);have hsv:oC sv:=hS.oC;have Us:q9 wB P:=(PrB.mk IK).wZ hp ht hu hsv;have hkeep:∀k,k<w.heap.size→k≠P→sv.ownBlock≠some k→wC.heap[k]?=w.heap[k]?:=fun k hk hne hns=>by
  rw[hTC.block k (by omega) hne,hgB.block k (by simp;omega) (fun e=>hns e.symm),Below.heap_alloc _ _ _ (by omega)];exact hTA.block k hk hne
 have hFC:∀v l,Facts w v l→Facts wC v l:=fun v l hf=>by
  have h1:=uP hnt hTA hf;have h2:=hFB v l (h1.later ((Later.refl _).alloc _));exact uP Us hTC h2
 have hBC:Below P w wC:=by
  refine⟨?_,?_,?_,by have:=hTC.size;omega,fun k hk=>hkeep k (by omega) (by omega) (fun e=>by have:=(hlo k e).1;omega)⟩
  ·rw[hTC.os,hgB.os];exact hTA.os
  ·rw[hTC.tape,hgB.tape];exact hTA.tape
  ·rw[hTC.output,hgB.output];exact hTA.output
 have q5:wA.cell? ⟨P,5,none⟩=some sv:=by rw[cell_of_row _ _ _ _ _ _ hRA];rfl
 have z2:w.frozen? ⟨P,2,none⟩=false:=fP hP.row;have q5b:wB.cell? ⟨P,5,none⟩=some sv:=by rw[cell_of_row _ _ _ _ _ _ IK];rfl
 have z5:wB.frozen? ⟨P,5,none⟩=false:=fP IK;obtain⟨ua,un,uc,rfl⟩:=hu;obtain⟨sa,sn,sc,rfl⟩:=hsv;obtain⟨va,vn,vc,rfl⟩:oC v':=by obtain⟨g,cap,cur,e,_⟩:=hRB;exact⟨_,_,_,e⟩
 have HRn:=hide hrun;have HWA:=hide hwA;have HWC:=hide hwC;have HFin:Hid (PrB wC P pv tv (.slice ua un uc) c d (.slice va vn vc) mb∧uO lo wC (.slice va vn vc) (xs++[.slice ua un uc])∧(∀v l,Facts w v l→Facts wC v l)∧(∀k,k<w.heap.size→k≠P→(Value.slice sa sn sc).ownBlock≠some k→wC.heap[k]?=w.heap[k]?)∧Below P w wC):=⟨⟨hRC⟩,Ur,hFC,hkeep,hBC⟩;clear hP hS hnt hp ht ha hl p0 p1 p3 p4 p5 p6 hwA hTA hRA hSA hrun hRB hgB hFB Uq hlo IK hwC hTC hRC Ur Us hkeep hFC hBC
 go_enter Tryz.func102,Tryz.ntmps102
 go_wp2_with (first|(rw[←HWA.out])|(rw[←HWC.out])|(at_builtin;refine wpList_append_run rfl (.tmp 13) (.tmp 15) 113 rfl _ _ _ _ rfl rfl HRn.out ?_))
 first|go_end0|refine bodyPost_ret (results_none rfl _ _ _) rfl ?_
 exact⟨rfl,_,HFin.out⟩
end Go.Proofs.YtafmbokfkbccaaaGreatDoor
namespace Go.Proofs.YtafmbokfkbccaaaGreatDoor
open Go.RowKit Go.Sort
structure Kp (P lo:Nat) (w w':World):Prop where
 os:w'.os=w.os
 tape:w'.tape=w.tape
 output:w'.output=w.output
 size:w.heap.size≤w'.heap.size
 block:∀k,k<lo→k≠P→w'.heap[k]?=w.heap[k]?
theorem Kp.refl (P lo:Nat) (w:World):Kp P lo w w:=⟨rfl,rfl,rfl,Nat.le_refl _,fun _ _ _=>rfl⟩
theorem Kp.trans {P lo:Nat} {a b c:World} (h:Kp P lo a b) (k:Kp P lo b c):Kp P lo a c:=
 ⟨k.os.trans h.os,k.tape.trans h.tape,k.output.trans h.output,Nat.le_trans h.size k.size,fun i hi ho=>(k.block i hi ho).trans (h.block i hi ho)⟩
theorem Kp.of_below {P lo n:Nat} {a b:World} (h:Below n a b) (hn:lo≤n):Kp P lo a b:=⟨h.os,h.tape,h.output,h.size,fun k hk _=>h.block k (by omega)⟩
theorem Kp.below {P lo n:Nat} {a b:World} (h:Kp P lo a b) (hn:n≤P) (hl:P<lo):Below n a b:=⟨h.os,h.tape,h.output,h.size,fun k hk=>h.block k (by omega) (by omega)⟩
theorem Kp.less {P lo lo':Nat} {a b:World} (h:Kp P lo a b) (hl:lo'≤lo):Kp P lo' a b:=⟨h.os,h.tape,h.output,h.size,fun k hk hne=>h.block k (by omega) hne⟩
structure PrS (w:World) (P lo:Nat) (pv tv:Value) (c d:Int) (mb:Nat) (all:List au) (PS:List (List au)):Prop where
 has:∃av sv xs,PrB w P pv tv av c d sv mb∧vw lo w sv xs∧Facts w av all∧xs.length=PS.length∧∀(i:Nat) u l,xs[i]?=some u→PS[i]?=some l→Facts w u l
theorem PrS.below {w w':World} {P lo:Nat} {pv tv:Value} {c d:Int} {mb:Nat} {all:List au} {PS:List (List au)} (h:PrS w P lo pv tv c d mb all PS) (k:Below w.heap.size w w'):PrS w' P lo pv tv c d mb all PS:=by
 obtain⟨av,sv,xs,h1,h2,h3,h4,h5⟩:=h.has;refine⟨av,sv,xs,h1.below k,?_,h3.below k,h4,fun i u l hu hl=>(h5 i u l hu hl).below k⟩;rcases h2 with e|h2
 ·exact Or.inl e
 ·exact Or.inr (h2.block fun i hi _=>k.block i hi)
theorem PrS.fewer {w:World} {P lo lo':Nat} {pv tv:Value} {c d:Int} {mb:Nat} {all:List au} {PS:List (List au)} (h:PrS w P lo pv tv c d mb all PS) (hl:lo'≤lo):PrS w P lo' pv tv c d mb all PS:=by
 obtain⟨av,sv,xs,h1,h2,h3⟩:=h.has;refine⟨av,sv,xs,h1,?_,h3⟩;rcases h2 with e|⟨g,cap,cur,e,hg,r⟩
 ·exact Or.inl e
 ·exact Or.inr ⟨g,cap,cur,e,by omega,r⟩
theorem PO (P lo:Nat) (pv tv u:Value) (c d:Int) (mb:Nat) (all L:List au) (PS:List (List au)) (w:World) (hS:PrS w P lo pv tv c d mb all PS) (Qy:P<lo) (hlw:lo≤w.heap.size) (hp:oC pv) (ht:oC tv) (hu:Facts w u L) (hl:PS.length+1≤1000000):
  Calls Tryz.prog 102 #[.pointer (some ⟨P,0,none⟩),u] w fun e w'=>e=.returned (.tuple #[])∧PrS w' P lo pv tv c d mb L (PS++[L])∧Kp P lo w w':=by
 obtain⟨av,sv,xs,h1,h2,h3,h4,h5⟩:=hS.has;have hua:oC u:=by obtain⟨a,c,e⟩:=aB hu;exact⟨a,_,c,e⟩
 have haa:oC av:=by obtain⟨a,c,e⟩:=aB h3;exact⟨a,_,c,e⟩
 refine(Sn P lo pv tv av u sv c d mb xs w h1 h2 Qy hlw hp ht haa hua (by omega)).mono fun e w' ⟨he,sv',k1,k2,k3,k4,k5⟩=>⟨he,⟨u,sv',xs++[u],k1,Or.inr k2,k3 u L hu,by simp[h4],fun i z l hz hl=> ?_⟩,⟨k5.os,k5.tape,k5.output,k5.size,fun k hk hne=>k4 k (by omega) hne (fun e=>by have:=(h2.lo k e).1;omega)⟩⟩
 by_cases hi:i<xs.length
 ·rw[List.getElem?_append_left hi] at hz;rw[List.getElem?_append_left (by omega)] at hl;exact k3 z l (h5 i z l hz hl)
 ·rw[List.getElem?_append_right (by omega)] at hz;rw[List.getElem?_append_right (by omega)] at hl;have hi':i=xs.length:=by
   have:=(List.getElem?_eq_some_iff.1 hz).1;simp at this;omega
  subst hi';rw[h4] at hl;simp at hz hl;subst hz hl;exact k3 u L hu
set_option maxRecDepth 100000 in
set_option maxHeartbeats 8000000 in
theorem PU (p:List aA) (hp:dB p) (σ:aA→Nat) (n:Int) (P lo:Nat) (pv tv sv:Value) (c d:Int) (mb:Nat) (L:List au) (PS:List (List au)) (w:World) (hS:PrS w P lo pv tv c d mb L PS) (Qy:P<lo) (hlw:lo≤w.heap.size) (hpv:dX.sl (fun k=>k<P) w pv p) (hsv:oD.sl (fun k=>k<lo∧k≠P) w sv (p.map σ)) (ht:oC tv) (hG:GoodS p L) (hPS:PS.length≤500000):
  Calls Tryz.prog 103 #[.pointer (some ⟨P,0,none⟩),sv,.int .i64 n] w fun e w'=>e=.returned (.int .i64 (aS p (p.map σ) n 201 L).1)∧((aS p (p.map σ) n 201 L).1=0→PrS w' P lo pv tv c d mb (bE L (aS p (p.map σ) n 201 L).2) (PS++(aS p (p.map σ) n 201 L).2))∧Kp P lo w w':=by
 generalize hss:p.map σ=ss at*;have HSS:=hide hss;obtain⟨pa,pc,hpe⟩:=Kind.slice hpv;obtain⟨sa,sc,hse⟩:=Kind.slice hsv;have HPv:Hid (∀w',Kp P lo w w'→dX.sl bU w' pv p):=fun w' h=>Kind.bW (Kind.aM hpv h.size fun k _ hB=>h.block k (by omega) (by omega));have HSv:Hid (∀w',Kp P lo w w'→oD.sl bU w' sv ss):=fun w' h=>Kind.bW (Kind.aM hsv h.size fun k _ hB=>h.block k hB.1 hB.2);have HS:=hide hS;have HG:=hide hG;have HRP:=hide hp;obtain⟨O,hO⟩:∃O,O=aS p ss n 201 L:=⟨_,rfl⟩;rw[←hO];have HO:=hide hO;subst hpe;subst hse;clear hss hS hG hp hpv hsv hO;have Rh:=HG.out.few
 go_enter Tryz.func103,Tryz.ntmps103
 go_wp2
 go_loopg [7] 201 (fun g _ wr=>∃(k:Nat) (M:List au) (Q:List (List au)),k=g∧200<M.length+k∧Q.length+k=201∧Hid (PrS wr P lo (.slice pa p.length pc) tv c d mb M (PS++Q))∧Hid (GoodS p M)∧Hid (M=bE L Q)∧Hid (O.1=(aS p ss n k M).1∧((aS p ss n k M).1=0→O.2=Q++(aS p ss n k M).2))∧Hid (Kp P lo w wr))
 case atStart=>exact⟨201,L,[],rfl,by omega,rfl,(by rw[List.append_nil];exact HS.out:PrS _ _ _ _ _ _ _ _ _ _),HG,(rfl:_=_),⟨by rw[HO.out],fun _=>by rw[HO.out];rfl⟩,Kp.refl _ _ _⟩
 case round=>
  clear HS HG Rh;obtain⟨k,M,Q,rfl,Wh,hQ,HS,HG,HM,HO,HK⟩:=hrel;have hMf:=HG.out.few;obtain⟨k,rfl⟩:∃m,k=m+1:=⟨k-1,by omega⟩;obtain⟨av,pv',xs,hB,hR,hF,hl,hx⟩:=HS.out.has;obtain⟨aa,ac,hav⟩:=aB hF;subst hav;obtain⟨p0,p1,p2,p3,p4,p5,p6,hPl⟩:=hB.cells;have Wi:=HK.out.size;have HCe:Hid (∀w',Below wr.heap.size wr w'→w'.cell? ⟨P,0,none⟩=some (.slice pa p.length pc)∧w'.cell? ⟨P,2,none⟩=some (.slice aa M.length ac)):=fun w' h=>by
   have:=(hB.below h).cells;exact⟨this.1,this.2.2.1⟩
  have HOn:Hid (∀w',Below wr.heap.size wr w'→Calls Tryz.prog 125 #[.slice pa p.length pc,.slice sa ss.length sc,.int .i64 n,.slice aa M.length ac] w' fun e w''=>∃v' er,e=.returned (.tuple #[v',.int .i64 er])∧EB w'' v' er (fq p ss n M)∧Hid (Below wr.heap.size wr w'')):=fun w' h=>by
   have hkk:=HK.out.trans (Kp.of_below h (by omega));have:=Rf p ss n M (.slice pa p.length pc) (.slice sa ss.length sc) (.slice aa M.length ac) w' (HPv.out w' hkk) (HSv.out w' hkk) (hF.below h) HRP.out.few hMf (wH HRP.out HG.out) (tX HRP.out HG.out) (fun f hf=>nX (HG.out.right f hf));exact this.mono fun e w'' ⟨v',er,h1,h2,h3⟩=>⟨v',er,h1,h2,aj h h3 h.size⟩
  have HB2:=hide hB;clear hB hR hF hl hx p0 p1 p3 p4 p5 p6;obtain⟨OE,OL,hON⟩:∃a b,fq p ss n M=(a,b):=⟨_,_,rfl⟩;rw[hON] at HOn;have HON:=hide hON;clear hON;go_wp2;refine wp_region_held_drew (S:=fun w'=>Below wr.heap.size wr w') (by kernel_rfl) (Below.refl _ _).drew (fun hHeld=> ?_);refine ak (i:=0) (d:=some 17) (v:= ?_) rfl rfl hHeld ?_ ?_;rotate_left;focus intro w hSw;(try dsimp only at hSw);go_simp;try with_reducible rfl
  simp only[aK,aL,aze,asu];refine ak (i:=1) (d:=some 18) (v:= ?_) rfl rfl hHeld ?_ ?_;rotate_left;focus intro w hSw;(try dsimp only at hSw);go_simp;try with_reducible rfl
  simp only[aK,aL,aze,asu];refine ak (i:=2) (d:=some 19) (v:= ?_) rfl rfl hHeld ?_ ?_;rotate_left;focus intro w hSw;(try dsimp only at hSw);go_simp;try with_reducible rfl
  simp only[aK,aL,aze,asu];refine ak (i:=3) (d:=some 20) (v:= ?_) rfl rfl hHeld ?_ ?_;rotate_left;focus intro w hSw;(try dsimp only at hSw);go_simp;try with_reducible rfl
  simp only[aK,aL,aze,asu];refine ak (i:=4) (d:=some 21) (v:= ?_) rfl rfl hHeld ?_ ?_;rotate_left;focus intro w hSw;(try dsimp only at hSw);obtain⟨q0,q2⟩:=HCe.out _ hSw;go_simp;try with_reducible rfl
  simp only[aK,aL,aze,asu];refine ak (i:=5) (d:=some 22) (v:= ?_) rfl rfl hHeld ?_ ?_;rotate_left;focus intro w hSw;(try dsimp only at hSw);go_simp;try with_reducible rfl
  simp only[aK,aL,aze,asu];refine ak (i:=6) (d:=some 23) (v:= ?_) rfl rfl hHeld ?_ ?_;rotate_left;focus intro w hSw;(try dsimp only at hSw);go_simp;try with_reducible rfl
  simp only[aK,aL,aze,asu];refine ak (i:=7) (d:=some 24) (v:= ?_) rfl rfl hHeld ?_ ?_;rotate_left;focus intro w hSw;(try dsimp only at hSw);go_simp;try with_reducible rfl
  simp only[aK,aL,aze,asu];refine ak (i:=8) (d:=some 25) (v:= ?_) rfl rfl hHeld ?_ ?_;rotate_left;focus intro w hSw;(try dsimp only at hSw);go_simp;try with_reducible rfl
  simp only[aK,aL,aze,asu];refine ak (i:=9) (d:=some 26) (v:= ?_) rfl rfl hHeld ?_ ?_;rotate_left;focus intro w hSw;(try dsimp only at hSw);go_simp;try with_reducible rfl
  simp only[aK,aL,aze,asu];refine ak (i:=10) (d:=some 27) (v:= ?_) rfl rfl hHeld ?_ ?_;rotate_left;focus intro w hSw;(try dsimp only at hSw);go_simp;try with_reducible rfl
  simp only[aK,aL,aze,asu];refine ak (i:=11) (d:=some 28) (v:= ?_) rfl rfl hHeld ?_ ?_;rotate_left;focus intro w hSw;(try dsimp only at hSw);obtain⟨q0,q2⟩:=HCe.out _ hSw;go_simp;try with_reducible rfl
  simp only[aK,aL,aze,asu];refine wpAnyH_ready (rs:=[12]) (by kernel_rfl) (by simp) ?_;refine AllReadyH.cons rfl (fun K hK=> ?_) AllReadyH.nil;go_simp;refine(HOn.out _ hHeld).mono ?_;rintro e w2 ⟨v2,er2,rfl,⟨he2,hT0,hT1⟩,hB2⟩;dsimp only at he2 hT0 hT1;subst he2;have hv2:oC v2:=by
   by_cases h0:er2=0
   ·obtain⟨a,c,e⟩:=aB (hT1 h0);exact⟨a,_,c,e⟩
   ·exact⟨_,_,_,hT0 h0⟩
  obtain⟨a2,n2,c2,rfl⟩:=hv2;refine hK.out _ _ hB2.out (fun hHeld=> ?_);clear hK K;refine ak (i:=13) (d:=some 16) (v:= ?_) rfl rfl hHeld ?_ ?_;rotate_left;focus intro w hSw;(try dsimp only at hSw);go_simp;try with_reducible rfl
  simp only[aK,aL,aze,asu];refine ak (i:=14) (d:=some 30) (v:= ?_) rfl rfl hHeld ?_ ?_;rotate_left;focus intro w hSw;(try dsimp only at hSw);go_simp;try with_reducible rfl
  simp only[aK,aL,aze,asu];refine ak (i:=15) (d:=some 31) (v:= ?_) rfl rfl hHeld ?_ ?_;rotate_left;focus intro w hSw;(try dsimp only at hSw);go_simp;try with_reducible rfl
  simp only[aK,aL,aze,asu];refine ak (i:=16) (d:=some 8) (v:= ?_) rfl rfl hHeld ?_ ?_;rotate_left;focus intro w hSw;(try dsimp only at hSw);go_simp;try with_reducible rfl
  simp only[aK,aL,aze,asu];refine ak (i:=17) (d:=some 9) (v:= ?_) rfl rfl hHeld ?_ ?_;rotate_left;focus intro w hSw;(try dsimp only at hSw);go_simp;try with_reducible rfl
  simp only[aK,aL,aze,asu];refine wpAnyH_done (by kernel_rfl) ?_ _;clear hHeld;have HK2:=hide (HK.out.trans (Kp.of_below hB2.out (by omega)));have hst:aS p ss n (k+1) M=if er2≠0 then(er2,[]) else if OL.length=M.length then(0,[OL]) else((aS p ss n k OL).1,OL::(aS p ss n k OL).2):=by
   conv=>lhs;unfold aS
   rw[HON.out]
  by_cases h0:er2=0
  ·subst h0;rw[if_neg (by simp)] at hst;have hF2:=hT1 rfl;have hG2:GoodS p OL∧∀f∈M,f∈OL:=by
    have:=HON.out;rw[←HSS.out] at this;exact mh HRP.out σ HG.out this
   have Kl:n2=OL.length:=by
    obtain⟨a,c,e⟩:=aB hF2;simp only[Value.slice.injEq] at e;exact e.2.1
   subst Kl;have Ut:=HS.out.below hB2.out;have hsz2:=hB2.out.size;have HKe:=hide (PO P lo _ tv (.slice a2 OL.length c2) c d mb M OL (PS++Q) w2 Ut Qy (by omega) ⟨_,_,_,rfl⟩ ht hF2 (by simp;omega));have hle:=sD HG.out.up hG2.2;have HG2:=hide hG2.1;clear hT0 hT1 hF2 hG2 Ut HOn HCe hB2
   go_wp2_with fail
   refine HKe.out.mono ?_;rintro e w3 ⟨rfl,hS3,hK3⟩;have HK3:=hide (HK2.out.trans hK3)
   by_cases hlen:OL.length=M.length
   ·rw[if_pos hlen] at hst;have HR:Hid (O.1=0∧(O.1=0→PrS w3 P lo (.slice pa p.length pc) tv c d mb (bE L O.2) (PS++O.2))):=by
     have h1:=HO.out;rw[hst] at h1;have h2:=h1.2 rfl;refine⟨h1.1,fun _=> ?_⟩;rw[h2,gJ,←HM.out,←List.append_assoc];exact hS3
    have hli:((OL.length:Int)==(M.length:Int))=true:=by simp[hlen]
    have Wj:(OL.length:Int)=(M.length:Int):=by omega
    clear hS3 hK3 hst HKe HO hlen;go_wp2;go_ret;exact⟨by rw[HR.out.1];rfl,HR.out.2,HK3.out⟩
   ·rw[if_neg hlen] at hst;have HO2:Hid (O.1=(aS p ss n k OL).1∧((aS p ss n k OL).1=0→O.2=(Q++[OL])++(aS p ss n k OL).2)):=by
     have h1:=HO.out;rw[hst] at h1;exact⟨h1.1,fun h=>by rw[h1.2 h];simp⟩
    have HS3:Hid (PrS w3 P lo (.slice pa p.length pc) tv c d mb OL (PS++(Q++[OL]))):=by show PrS _ _ _ _ _ _ _ _ _ _;rw[←List.append_assoc];exact hS3
    have HM3:Hid (OL=bE L (Q++[OL])):=by show _=_;rw[gJ];rfl
    have hlt:M.length<OL.length:=by omega
    have hq3:(Q++[OL]).length+k=201:=by simp;omega
    have hli:¬(OL.length:Int)=(M.length:Int):=by omega
    have Wj:((OL.length:Int)==(M.length:Int))=false:=by simp;omega
    clear hS3 hK3 hst HKe HO hlen;go_wp2
    go_roundg k
    case measure=>omega
    case rel=>exact⟨k,OL,Q++[OL],rfl,by omega,hq3,HS3,HG2,HM3,HO2,HK3⟩
  ·have hq:(er2 != 0)=true:=by simpa using h0
   rw[if_pos h0] at hst;have HR:Hid (O.1=er2):=by show _=_;rw[HO.out.1,hst]
   have HN:Hid (O.1=0→PrS w2 P lo (.slice pa p.length pc) tv c d mb (bE L O.2) (PS++O.2)):=fun h=>absurd (HR.out.symm.trans h) h0;clear hst hT0 hT1 HOn HCe hB2 h0 HO;go_wp2;go_ret;exact⟨by rw[HR.out];rfl,HN.out,HK2.out⟩
end Go.Proofs.YtafmbokfkbccaaaGreatDoor
namespace Go.Proofs.YtafmbokfkbccaaaGreatDoor
open Go.RowKit Go.Sort
def jy (p:List aA) (told:List au):Int:=if(aG p).2.1≠0 then(aG p).2.1 else if(fU p told).1≠0 then(fU p told).1 else(bF p (aG p).1 (countP (aG p).1) 0 told).1
theorem Fg (p:List aA) (told:List au):(G6 p told).1=jy p told∧(jy p told=0→G6 p told=(0,bE told (bF p (aG p).1 (countP (aG p).1) 0 told).2)):=by
 unfold G6 jy
 by_cases h0:(aG p).2.1=0
 ·have h0':¬(aG p).2.1≠0:=fun h=>h h0;simp only[if_neg h0']
  by_cases h1:(fU p told).1=0
  ·have h1':¬(fU p told).1≠0:=fun h=>h h1;simp only[if_neg h1'];exact yO p _ _ 0 told
  ·have h1':(fU p told).1≠0:=h1;simp only[if_pos h1'];exact⟨trivial,fun h=>absurd h h1⟩
 ·have h0':(aG p).2.1≠0:=h0;simp only[if_pos h0'];exact⟨trivial,fun h=>absurd h h0⟩
theorem yQ {p:List aA} {ss:List Nat} {n:Int}:∀(k:Nat) (L:List au),(aS p ss n k L).2.length≤k
 |0,_=>by simp[aS]
 |k+1,L=>by
  unfold aS;split
  ·simp
  ·split
   ·simp
   ·have:=yQ (p:=p) (ss:=ss) (n:=n) k (fq p ss n L).2;simp only[List.length_cons];omega
theorem CJ {p:List aA} {ss:List Nat}:∀(c n:Nat) (L:List au),(bF p ss c n L).2.length≤c*201
 |0,_,_=>by simp[bF]
 |c+1,n,L=>by
  unfold bF;split
  ·simp
  ·have h1:=yQ (p:=p) (ss:=ss) (n:=(n:Int)) 201 L;have h2:=CJ (p:=p) (ss:=ss) c (n+1) (bE L (aS p ss n 201 L).2);simp only[List.length_append];omega
set_option maxRecDepth 100000 in
set_option maxHeartbeats 16000000 in
theorem Nf (p:List aA) (told:List au) (P mb:Nat) (pv tv:Value) (w0 w:World) (hB:PrB w P pv tv (.slice none 0 0) 0 0 (.slice none 0 0) mb) (hB0:Below w0.heap.size w0 w) (hw0:w0.heap.size≤P) (hpv:dX.sl bU w0 pv p) (ht:Facts w0 tv told):
  Calls Tryz.prog 58 #[.pointer (some ⟨P,0,none⟩)] w fun e w'=>e=.returned (.int .i64 (jy p told))∧(jy p told=0→PrS w' P w.heap.size pv tv 0 0 mb (bE told (bF p (aG p).1 (countP (aG p).1) 0 told).2) (told::(bF p (aG p).1 (countP (aG p).1) 0 told).2))∧Kp P w.heap.size w w':=by
 have hPl:=hB.cells.2.2.2.2.2.2.2;have hpw:=Kind.aX hpv hB0;have htw:=ht.below hB0;obtain⟨pa,pc,rfl⟩:=Kind.slice hpv;obtain⟨ta,tc,rfl⟩:=aB ht;have HSt:=hide (Ck p (.slice pa p.length pc) w hpw);have HPr:=hide hB;have HV0:=hide hpv;have HT0:=hide ht;have HB0:=hide hB0;obtain⟨p0,p1,p2,p3,p4,p5,p6,_⟩:=hB.cells;obtain⟨FE,hFE⟩:∃FE,FE=jy p told:=⟨_,rfl⟩;rw[←hFE];obtain⟨RP,hRP⟩:∃RP,RP=(bF p (aG p).1 (countP (aG p).1) 0 told):=⟨_,rfl⟩;rw[←hRP];unfold jy at hFE;rw[←hRP] at hFE;obtain⟨ss,ex,ea,hse⟩:∃ss ex ea,aG p=(ss,ex,ea):=⟨_,_,_,rfl⟩;rw[hse] at HSt hFE hRP;dsimp only at hFE hRP;have HSE:=hide hse;have HFE:=hide hFE;have Uu:=hide hRP;clear hse hFE hRP hpv ht hB hB0 hpw htw
 go_enter Tryz.func58,Tryz.ntmps58
 go_wp2_with fail
 refine HSt.out.mono ?_;rintro e w1 ⟨u,rfl,hu,hB1⟩;dsimp only at hu⊢;have HU:=hide hu;obtain⟨ua,uc,rfl⟩:=Kind.slice hu;have HB1:=hide hB1;clear hu hB1 HSt p0 p1 p2 p3 p4 p5 p6
 by_cases h0:ex=0
 ·subst h0;obtain⟨Uv,m,hms,hdm,hlm,hsm⟩:=kI HSE.out;have hp:=mR.1 Uv;have Sq:∀s∈ss,s<16:=fun s hs=>by
   rw[hms] at hs;obtain⟨r,hr,rfl⟩:=List.mem_map.1 hs;have:=uj hlm hsm r hr;have:=hp.few;omega
  have hcs:countP ss≤16:=countP_le Sq;have HMS:Hid (ss=p.map fun r=>numOf m r.head.name):=hms;have HRP:=hide hp;have HSm:=hide Sq;have hFE:=HFE.out;rw[if_neg (by simp)] at hFE;obtain⟨w2,hw2⟩:∃w2,w2=w1.alloc (.cells #[.int .i64 0,.int .i64 (ea:Nat)] 75):=⟨_,rfl⟩;have hL2:Later w1 w2:=by rw[hw2];exact(Later.refl _).alloc _
  have hB2:Below w.heap.size w w2:=aj HB1.out hL2.below HB1.out.size;have HU2:=hide (Kind.aM HU.out hL2.size fun k hk _=>hL2.block hk);have hr2:w2.heap[w1.heap.size]?=some (.cells #[.int .i64 0,.int .i64 (ea:Nat)] 75 (0,0)):=by rw[hw2];exact heap_alloc_new w1 _
  have hc0:w2.cell? ⟨w1.heap.size,0,none⟩=some (.int .i64 0):=by rw[cell_of_row _ _ _ _ _ _ hr2];rfl
  have HCe:Hid (∀w',Below w2.heap.size w2 w'→w'.cell? ⟨P,0,none⟩=some (.slice pa p.length pc)∧w'.cell? ⟨P,1,none⟩=some (.slice ta told.length tc)):=fun w' h=>by
   have:=((HPr.out.below hB2).below h).cells;exact⟨this.1,this.2.1⟩
  obtain⟨fx,fe,hfe⟩:∃fx fe,fU p told=(fx,fe):=⟨_,_,rfl⟩;have HFc:Hid (∀w',Below w2.heap.size w2 w'→Calls Tryz.prog 66 #[.slice pa p.length pc,.slice ta told.length tc] w' fun e w''=>e=.returned (.agg #[.int .i64 fx,.int .i64 fe])∧Below w2.heap.size w2 w''∧Below w'.heap.size w' w''):=fun w' h=>by
   have hh:=aj HB0.out (aj hB2 h hB2.size) HB0.out.size;have:=uh p HRP.out (.slice pa p.length pc) (.slice ta told.length tc) told w' (Kind.aX HV0.out hh) (HT0.out.below hh);rw[hfe] at this;exact this.mono fun e w'' ⟨h1,h2⟩=>⟨h1,aj h h2 h.size,h2⟩
  rw[hfe] at hFE;dsimp only at hFE;have Qz:=hide hFE;have HFx:=hide hfe;have HB2:=hide hB2;have HW2:=hide hw2;have Wl:=hB2.size;clear Uv hms hdm hlm hsm hp Sq hL2 hB2 hw2 hr2 hfe hFE HFE HU
  go_wp2_with (rw[←HW2.out])
  refine wp_region_held_drew (S:=fun w'=>Below w2.heap.size w2 w') (by kernel_rfl) (Below.refl _ _).drew (fun hHeld=> ?_);refine ak (i:=0) (d:=some 22) (v:= ?_) rfl rfl hHeld ?_ ?_;rotate_left;focus intro w hSw;(try dsimp only at hSw);go_simp;try with_reducible rfl
  simp only[aK,aL,aze,asu];refine ak (i:=1) (d:=some 23) (v:= ?_) rfl rfl hHeld ?_ ?_;rotate_left;focus intro w hSw;(try dsimp only at hSw);go_simp;try with_reducible rfl
  simp only[aK,aL,aze,asu];refine ak (i:=2) (d:=some 24) (v:= ?_) rfl rfl hHeld ?_ ?_;rotate_left;focus intro w hSw;(try dsimp only at hSw);go_simp;try with_reducible rfl
  simp only[aK,aL,aze,asu];refine ak (i:=3) (d:=some 25) (v:= ?_) rfl rfl hHeld ?_ ?_;rotate_left;focus intro w hSw;(try dsimp only at hSw);go_simp;try with_reducible rfl
  simp only[aK,aL,aze,asu];refine ak (i:=4) (d:=some 26) (v:= ?_) rfl rfl hHeld ?_ ?_;rotate_left;focus intro w hSw;(try dsimp only at hSw);obtain⟨q0,q1⟩:=HCe.out _ hSw;go_simp;try with_reducible rfl
  simp only[aK,aL,aze,asu];refine ak (i:=5) (d:=some 27) (v:= ?_) rfl rfl hHeld ?_ ?_;rotate_left;focus intro w hSw;(try dsimp only at hSw);go_simp;try with_reducible rfl
  simp only[aK,aL,aze,asu];refine ak (i:=6) (d:=some 28) (v:= ?_) rfl rfl hHeld ?_ ?_;rotate_left;focus intro w hSw;(try dsimp only at hSw);go_simp;try with_reducible rfl
  simp only[aK,aL,aze,asu];refine ak (i:=7) (d:=some 29) (v:= ?_) rfl rfl hHeld ?_ ?_;rotate_left;focus intro w hSw;(try dsimp only at hSw);go_simp;try with_reducible rfl
  simp only[aK,aL,aze,asu];refine ak (i:=8) (d:=some 30) (v:= ?_) rfl rfl hHeld ?_ ?_;rotate_left;focus intro w hSw;(try dsimp only at hSw);go_simp;try with_reducible rfl
  simp only[aK,aL,aze,asu];refine ak (i:=9) (d:=some 31) (v:= ?_) rfl rfl hHeld ?_ ?_;rotate_left;focus intro w hSw;(try dsimp only at hSw);obtain⟨q0,q1⟩:=HCe.out _ hSw;go_simp;try with_reducible rfl
  simp only[aK,aL,aze,asu];have hBe:Below w2.heap.size w2 w2.drew:=(Below.refl _ _).drew;refine wpAnyH_ready (rs:=[10,11]) (by kernel_rfl) (by simp) ?_;refine AllReadyH.cons rfl (fun K' hK=> ?ga) (AllReadyH.cons rfl (fun K' hK=> ?gb) AllReadyH.nil)
  case' ga=>
   go_simp;refine(HFc.out _ hBe).mono ?_;rintro e wx ⟨rfl,hB1,_⟩;refine hK.out _ _ hB1 (fun hHeld=> ?_);clear hK K' hBe;have hBe:=hB1;refine wpAnyH_ready (rs:=[11]) (by kernel_rfl) (by simp) ?_;refine AllReadyH.cons rfl (fun K' hK=> ?_) AllReadyH.nil;go_simp;have hzN:=heap_alloc_new wx (.cells #[.int .i64 0,.int .i64 0] 75);have yR:=aj hBe ((Later.refl wx).alloc (.cells #[.int .i64 0,.int .i64 0] 75)).below hBe.size;have hbx:w2.heap.size≤wx.heap.size:=hBe.size;refine hK.out _ _ yR (fun hHeld=> ?_);clear hK K' hBe hHeld hB1;generalize wx.heap.size=bx at*;generalize wx.alloc (.cells #[.int .i64 0,.int .i64 0] 75)=wf at*;have hBe:=yR;have hHeld:=yR;clear yR
  case' gb=>
   go_simp;have hzN:((w2.alloc (.cells #[.int .i64 0,.int .i64 0] 75)).drew).heap[w2.heap.size]?=some (.cells #[.int .i64 0,.int .i64 0] 75 (0,0)):=heap_alloc_new w2 _;have yR:Below w2.heap.size w2 ((w2.alloc (.cells #[.int .i64 0,.int .i64 0] 75)).drew):=((Later.refl w2).alloc (.cells #[.int .i64 0,.int .i64 0] 75)).drew.below;have hbl:w2.heap.size<((w2.alloc (.cells #[.int .i64 0,.int .i64 0] 75)).drew).heap.size:=by simp
   obtain⟨bx,PV⟩:∃bx,w2.heap.size=bx:=⟨_,rfl⟩;rw[PV] at hzN hbl;have hbx:w2.heap.size≤bx:=by omega
   refine hK.out _ _ yR (fun hHeld=> ?_);clear hK K' hBe hHeld;generalize((w2.alloc (.cells #[.int .i64 0,.int .i64 0] 75)).drew)=wz at*;have hBe:=yR;have hHeld:=yR;clear yR;refine wpAnyH_ready (rs:=[10]) (by kernel_rfl) (by simp) ?_;refine AllReadyH.cons rfl (fun K' hK=> ?_) AllReadyH.nil;go_simp;refine(HFc.out _ hBe).mono ?_;rintro e wf ⟨rfl,hB1,Ng⟩;have hzN:=(Ng.block _ hbl).trans hzN;refine hK.out _ _ hB1 (fun hHeld=> ?_);clear hK K' hBe Ng hbl PV;have hBe:=hB1;clear hB1
  all_goals
   refine wpAnyH_ready (rs:=[12]) (by kernel_rfl) (by simp) ?_;refine AllReadyH.cons rfl (fun K' hK=> ?_) AllReadyH.nil;obtain⟨b0,b1,g0,g1,_⟩:=jM hzN;go_simp;have DK:Below w2.heap.size w2 ((wf.setCell ⟨bx,0,none⟩ (.int .i64 fx)).setCell ⟨bx,1,none⟩ (.int .i64 fe)):=Below.setCell (Below.setCell hBe hbx _) hbx _;refine hK.out _ _ DK (fun hHeld=> ?_);clear hK K' hHeld;refine wpAnyH_done (by kernel_rfl) ?_ _;obtain⟨w3,hw3⟩:∃w3,w3=(wf.setCell ⟨bx,0,none⟩ (.int .i64 fx)).setCell ⟨bx,1,none⟩ (.int .i64 fe):=⟨_,rfl⟩;have hR3:w3.heap[bx]?=some (.cells #[.int .i64 fx,.int .i64 fe] 75 (0,0)):=by rw[hw3,dZ (j:=1) (dZ (j:=0) hzN _) _];rfl
   rw[←hw3] at DK⊢;have c0:w3.cell? ⟨bx,0,none⟩=some (.int .i64 fx):=by rw[cell_of_row _ _ _ _ _ _ hR3];rfl
   have HB3:=hide (aj HB2.out DK HB2.out.size);have Uw:=hide DK;clear hzN hBe hbx b0 b1 g0 g1 hw3 hR3 DK HW2 hc0 HFc HCe
   by_cases h1:fx=0
   ·subst h1;have hgood:GoodS p told:=qy (by rw[HFx.out]);have Ux:Hid (FE=RP.1):=by show _=_;rw[Qz.out,if_neg (by simp)]
    have hszz:=HB3.out.size;have Sr:=HPr.out.below HB3.out;have hS3:PrS w3 P w3.heap.size (.slice pa p.length pc) (.slice ta told.length tc) 0 0 mb [] []:=⟨_,_,[],Sr,Or.inl ⟨rfl,rfl⟩,tL w3,rfl,fun i u l h=>by simp at h⟩;have Ik:=aj HB0.out HB3.out HB0.out.size;have HKe:=hide (PO P w3.heap.size (.slice pa p.length pc) (.slice ta told.length tc) (.slice ta told.length tc) 0 0 mb [] told [] w3 hS3 (by omega) (Nat.le_refl _) ⟨_,_,_,rfl⟩ ⟨_,_,_,rfl⟩ (HT0.out.below Ik) (by simp));have q1:=Sr.cells.2.1;have HG:=hide hgood;have HU3:=hide (Kind.aM HU2.out Uw.out.size fun k hk _=>Uw.out.block k hk);have hu3:oD.sl (fun k=>k<w3.heap.size∧k≠P) w3 (.slice ua ss.length uc) ss:=Kind.aH HU3.out fun k hk hB=>⟨hk,by have:w.heap.size≤k:=hB;omega⟩;have HUS:=hide hu3;have hp3:dX.sl (fun k=>k<P) w3 (.slice pa p.length pc) p:=Kind.aM (Kind.aH HV0.out fun k hk _=>by omega) Ik.size fun k hk _=>Ik.block k hk;have HPS:=hide hp3;clear hgood Sr hS3 Ik hu3 hp3 Qz HFx;generalize hlo:w3.heap.size=lo at*
    go_wp2_with fail
    refine HKe.out.mono ?_;rintro e w4 ⟨rfl,hS4,hK4⟩;rw[List.nil_append] at hS4;have HS4:=hide hS4;have HK4:=hide hK4;have Pg:=hK4.size;have hu4:oD.sl bU w4 (.slice ua ss.length uc) ss:=Kind.bW (Kind.aM HUS.out (by omega) fun k _ hB=>hK4.block k hB.1 hB.2);have HCn:=hide (Dp ss (.slice ua ss.length uc) w4 hu4 (fun s hs=>by have:=HSm.out s hs;omega));clear hS4 hK4 hu4 HKe q1 c0
    go_wp2_with fail
    refine HCn.out.mono ?_;rintro e w5 ⟨rfl,hL5⟩;have HS5:=hide (HS4.out.below hL5.below);have HK5:=hide (HK4.out.trans (Kp.of_below hL5.below (by omega)));have Wm:RP.2.length≤16*201:=by
     rw[Uu.out];exact Nat.le_trans (CJ _ _ _) (Nat.mul_le_mul_right _ hcs)
    clear hL5 HCn HS4 HK4 Pg;obtain⟨cc,hcc⟩:∃cc,cc=countP ss:=⟨_,rfl⟩;have HX:Hid (RP=bF p ss cc 0 told):=by show _=_;rw[Uu.out,hcc]
    rw[←hcc] at hcs⊢;clear hcc;go_wp2
    go_loopg [47] cc (fun g i wr=>∃(j k:Nat) (L:List au) (Q:List (List au)),k=g∧j+k=cc∧i=.int .i64 j∧Hid (PrS wr P lo (.slice pa p.length pc) (.slice ta told.length tc) 0 0 mb L (told::Q))∧Hid (GoodS p L)∧Hid (L=bE told Q)∧Q.length≤j*201∧Hid (RP.1=(bF p ss k j L).1∧((bF p ss k j L).1=0→RP.2=Q++(bF p ss k j L).2))∧Hid (Kp P lo w3 wr))
    case atStart=>exact⟨0,cc,told,[],rfl,by omega,rfl,HS5,HG,(rfl:_=_),by simp,⟨by rw[HX.out],fun _=>by rw[HX.out];rfl⟩,HK5⟩
    case round=>
     clear HS5 HG HX HK5;obtain⟨j,k,L,Q,hkg,hj,rfl,HS,HG,HLl,hQl,HX,HK⟩:=hrel;have Wi:=HK.out.size
     by_cases hlt:j<cc
     ·obtain⟨k',rfl⟩:∃k',k=k'+1:=⟨k-1,by omega⟩;have hltz:(j:Int)<(cc:Int):=by omega
      have hOC:=PU p HRP.out (fun r=>numOf m r.head.name) j P lo (.slice pa p.length pc) (.slice ta told.length tc) (.slice ua ss.length uc) 0 0 mb L (told::Q) wr HS.out (by omega) (by omega) (Kind.aM HPS.out HK.out.size fun i _ hB=>HK.out.block i (by omega) (by omega)) (by rw[←HMS.out];exact Kind.aM HUS.out HK.out.size fun i _ hB=>HK.out.block i hB.1 hB.2) ⟨_,_,_,rfl⟩ HG.out (by simp only[List.length_cons];have:=Nat.mul_le_mul_right 201 (show j≤16 by omega);omega);rw[←HMS.out] at hOC;have HOC:=hide hOC;obtain⟨er,S,hSo⟩:∃er S,aS p ss (j:Int) 201 L=(er,S):=⟨_,_,rfl⟩;rw[hSo] at HOC;have hst:bF p ss (k'+1) j L=if er≠0 then(er,[]) else((bF p ss k' (j+1) (bE L S)).1,S++(bF p ss k' (j+1) (bE L S)).2):=by
       conv=>lhs;unfold bF
       rw[hSo]
      have hSl:S.length≤201:=by have:=yQ (p:=p) (ss:=ss) (n:=(j:Int)) 201 L;rw[hSo] at this;exact this
      have hgS:er=0→GoodS p (bE L S):=fun h=>by
       have hS2:=hSo;rw[HMS.out,h] at hS2;exact(kV HRP.out _ 201 HG.out hS2 (by omega)).1
      have HST:=hide hst;have HGS:=hide hgS;clear hOC hst hgS hSo
      go_wp2_with fail
      refine HOC.out.mono ?_;rintro e w7 ⟨rfl,hS7,hK7⟩;dsimp only at hS7⊢;have HK7:=hide (HK.out.trans hK7)
      by_cases he:er=0
      ·subst he;have HS7:Hid (PrS w7 P lo (.slice pa p.length pc) (.slice ta told.length tc) 0 0 mb (bE L S) (told::(Q++S))):=hS7 rfl;have HG7:=hide (HGS.out rfl);have HL7:Hid (bE L S=bE told (Q++S)):=by show _=_;rw[gJ,←HLl.out]
       have HX7:Hid (RP.1=(bF p ss k' (j+1) (bE L S)).1∧((bF p ss k' (j+1) (bE L S)).1=0→RP.2=(Q++S)++(bF p ss k' (j+1) (bE L S)).2)):=by
        have h1:=HX.out;rw[HST.out,if_neg (by simp)] at h1;exact⟨h1.1,fun h=>by rw[h1.2 h,List.append_assoc]⟩
       have hQ7:(Q++S).length≤(j+1)*201:=by rw[List.length_append,Nat.add_mul];omega
       clear hS7 hK7 HOC HST HGS;go_wp2
       go_roundg k'
       case measure=>omega
       case rel=>exact⟨j+1,k',bE L S,Q++S,rfl,by omega,by go_num,HS7,HG7,HL7,hQ7,HX7,HK7⟩
      ·have hne:(er != 0)=true:=by simpa using he
       have HR:Hid (FE=er):=by show _=_;rw[Ux.out,HX.out.1,HST.out,if_pos he]
       have HN:Hid (FE=0→PrS w7 P w.heap.size (.slice pa p.length pc) (.slice ta told.length tc) 0 0 mb (bE told RP.2) (told::RP.2)):=fun h=>absurd (HR.out.symm.trans h) he;have HKK:=hide ((Kp.of_below (P:=P) HB3.out (Nat.le_refl _)).trans (HK7.out.less (by omega)));clear hS7 hK7 HOC HST HGS he;go_wp2;go_ret;exact⟨by rw[HR.out];rfl,HN.out,HKK.out⟩
     ·have hk0:k=0:=by omega
      have HR:Hid (FE=0∧PrS wr P w.heap.size (.slice pa p.length pc) (.slice ta told.length tc) 0 0 mb (bE told RP.2) (told::RP.2)):=by
       have h1:=HX.out;rw[hk0] at h1;have h2:RP.2=Q++[]:=h1.2 rfl;rw[List.append_nil] at h2;refine⟨by rw[Ux.out,h1.1];rfl,?_⟩;rw[h2,←HLl.out];exact HS.out.fewer (by omega)
      have HKK:=hide ((Kp.of_below (P:=P) HB3.out (Nat.le_refl _)).trans (HK.out.less (by omega)));clear hk0 HX;go_wp2;go_ret;exact⟨by rw[HR.out.1];rfl,fun _=>HR.out.2,HKK.out⟩
   ·have hne:(fx != 0)=true:=by simpa using h1
    have HR:Hid (FE=fx):=by show _=_;rw[Qz.out,if_pos h1]
    have HN:Hid (FE=0→PrS w3 P w.heap.size (.slice pa p.length pc) (.slice ta told.length tc) 0 0 mb (bE told RP.2) (told::RP.2)):=fun h=>absurd (HR.out.symm.trans h) h1;have HKK:=hide (Kp.of_below (P:=P) HB3.out (Nat.le_refl _));clear Qz h1;go_wp2;go_ret;exact⟨by rw[HR.out];rfl,HN.out,HKK.out⟩
 ·have hne:(ex != 0)=true:=by simpa using h0
  have HR:Hid (FE=ex):=by show _=_;rw[HFE.out,if_pos h0]
  have HN:Hid (∀w',FE=0→PrS w' P w.heap.size (.slice pa p.length pc) (.slice ta told.length tc) 0 0 mb (bE told RP.2) (told::RP.2)):=fun w' h=>absurd (HR.out.symm.trans h) h0;have HKK:Hid (Kp P w.heap.size w (w1.alloc (.cells #[.int .i64 ex,.int .i64 (ea:Nat)] 75))):=Kp.of_below (aj HB1.out ((Later.refl _).alloc _).below HB1.out.size) (Nat.le_refl _);clear HFE h0;go_wp2;go_ret;exact⟨by rw[HR.out];rfl,HN.out _,HKK.out⟩
end Go.Proofs.YtafmbokfkbccaaaGreatDoor
namespace Go.Proofs.YtafmbokfkbccaaaGreatDoor
open Go.RowKit Go.Sort
set_option maxRecDepth 100000 in
set_option maxHeartbeats 1000000 in
theorem Nh (A:Nat) (l:List au) (f:au) (lv:Value) (s:Value) (w:World) (hc0:w.cell? ⟨A,0,none⟩=some (.string f.1)) (hc1:w.cell? ⟨A,0+1,none⟩=some s) (hs:Strs w s f.2) (hl:Facts w lv l) (hr:gW l):
  Calls Tryz.prog 290 #[lv,.pointer (some ⟨A,0,none⟩)] w fun e w'=>e=.returned (.bool (inB l f))∧Later w w':=by
 have hin:=inC lv (.agg #[.string f.1,s]) l f w hl ⟨_,rfl,hs⟩ hr;rw[BZ] at hin;have HIn:=hide hin;obtain⟨sa,sc,rfl⟩:=aW hs;obtain⟨la,lc,rfl⟩:=aB hl;obtain⟨fn,aJ⟩:=f;dsimp only at*;clear hin hs hl;generalize inB l (fn,aJ)=b at*
 go_enter Tryz.func290,Tryz.ntmps290
 go_wp2_with fail
 refine HIn.out.mono ?_;rintro e w2 ⟨rfl,hL2⟩;have HL2:=hide hL2;clear hL2 HIn;go_wp2;go_ret;exact⟨rfl,HL2.out⟩
theorem Kn {PS:List (List au)} {f:au} {j:Nat} {l:List au} (hj:PS[j]?=some l) (hl:inB l f=true) (hn:∀t q,t<j→PS[t]?=some q→inB q f=false):iB PS f=j:=by
 unfold iB;obtain⟨hi,e⟩:=List.getElem?_eq_some_iff.1 hj;rw[List.findIdx_eq hi];refine⟨by rw[e];exact hl,fun t ht=> ?_⟩;exact hn t _ ht (List.getElem?_eq_getElem (by omega))
set_option maxRecDepth 100000 in
set_option maxHeartbeats 2000000 in
theorem IL (A lo:Nat) (PS:List (List au)) (xs:List Value) (f:au) (sv s:Value) (w:World) (hR:uO lo w sv xs) (hxl:xs.length=PS.length) (hx:∀(i:Nat) u l,xs[i]?=some u→PS[i]?=some l→Facts w u l) (hr:∀l∈PS,gW l)
  (hc0:w.cell? ⟨A,0,none⟩=some (.string f.1)) (hc1:w.cell? ⟨A,0+1,none⟩=some s) (hs:Strs w s f.2) (hf:iB PS f<PS.length) (hsm:PS.length≤1000000):
  Calls Tryz.prog 289 #[sv,.func (.func 290) #[] #[.pointer (some ⟨A,0,none⟩)]] w fun e w'=>e=.returned (.int .i64 (iB PS f:Nat))∧Later w w':=by
 have hAl:A<w.heap.size:=World.block_lt_of_cell? w _ hc0;have HBe:Hid (∀(l:List au) (lv:Value) (w':World),Later w w'→Facts w lv l→gW l→Calls Tryz.prog 290 #[lv,.pointer (some ⟨A,0,none⟩)] w' fun e w''=>e=.returned (.bool (inB l f))∧Later w' w''):=fun l lv w' h hl hrl=>
  Nh A l f lv s w' (by rw[h.cell (p:=⟨A,0,none⟩) hAl];exact hc0) (by rw[h.cell (p:=⟨A,0+1,none⟩) hAl];exact hc1) (hs.later h) (hl.later h) hrl
 have HX:=hide hx;have HR:=hide hr;have Wn:=hide hR.owns;obtain⟨g,cap,cur,rfl,hlo,hg,hnc,_⟩:=hR;have hgl:g<w.heap.size:=(Array.getElem?_eq_some_iff.1 hg).1;have Uy:Hid (∀j l,PS[j]?=some l→inB l f=true→(∀t q,t<j→PS[t]?=some q→inB q f=false)→iB PS f=j):=fun j l h1 h2 h3=>Kn h1 h2 h3;have PW:Hid (∃l,PS[iB PS f]?=some l∧inB l f=true):=by
  refine⟨_,List.getElem?_eq_getElem hf,?_⟩;exact List.findIdx_getElem (w:=hf)
 obtain⟨oi,hoi⟩:∃oi,oi=iB PS f:=⟨_,rfl⟩;rw[←hoi] at hf Uy PW⊢;have HXL:=hide hxl;rw[hxl] at hnc⊢;clear hx hr hc0 hc1 hs hg hoi hxl
 go_enter Tryz.func289,Tryz.ntmps289
 go_wp2
 go_loopg [8] PS.length (fun g' i wr=>∃j:Nat,j+g'=PS.length∧i=.int .i64 j∧Hid (∀t q,t<j→PS[t]?=some q→inB q f=false)∧Hid (Later w wr))
 case atStart=>exact⟨0,by omega,rfl,(fun t q h=>absurd h (Nat.not_lt_zero _)),Later.refl _⟩
 case round=>
  obtain⟨j,hj,rfl,HN,HW⟩:=hrel
  by_cases hlt:j<PS.length
  ·obtain⟨l,hl⟩:∃l,PS[j]?=some l:=⟨_,List.getElem?_eq_getElem hlt⟩;obtain⟨u,hu⟩:∃u,xs[j]?=some u:=⟨_,List.getElem?_eq_getElem (by have:=HXL.out;omega)⟩;have hF:=HX.out j u l hu hl;have hcell:=Wn.out.cells (g:=g) rfl j u hu;rw[Addr.add_lit] at hcell;have d0:wr.cell? ⟨g,j,none⟩=some u:=by rw[HW.out.cell (p:=⟨g,j,none⟩) hgl];simpa using hcell
   have HC:=hide (HBe.out l u wr HW.out hF (HR.out l (List.mem_of_getElem? hl)));obtain⟨ua,uc,rfl⟩:=aB hF;cases hin:inB l f with
   |true=>
    have HE:Hid (oi=j):=Uy.out j l hl hin HN.out;rw[hin] at HC;clear hl hu hF hcell hin
    go_wp2_with fail
    refine HC.out.mono ?_;rintro e w2 ⟨rfl,hL2⟩;have HL2:=hide (HW.out.trans hL2);clear hL2 HC;go_wp2;go_ret;exact⟨by rw[HE.out];rfl,HL2.out⟩
   |false=>
    have HN2:Hid (∀t q,t<j+1→PS[t]?=some q→inB q f=false):=fun t q ht hq=>by
     by_cases e:t=j
     ·subst e;rw[hl] at hq;cases hq;exact hin
     ·exact HN.out t q (by omega) hq
    rw[hin] at HC;clear hl hu hF hcell hin
    go_wp2_with fail
    refine HC.out.mono ?_;rintro e w2 ⟨rfl,hL2⟩;have HL2:=hide (HW.out.trans hL2);clear hL2 HC;go_wp2
    go_roundg (PS.length- (j+1))
    case measure=>omega
    case rel=>exact⟨j+1,by omega,by go_num,HN2,HL2⟩
  ·exfalso
   obtain⟨l,h1,h2⟩:=PW.out;have:=HN.out oi l (by omega) h1;rw[h2] at this;cases this
set_option maxRecDepth 100000 in
set_option maxHeartbeats 1000000 in
theorem Ni (P lo:Nat) (pv tv fv:Value) (c d:Int) (mb:Nat) (all:List au) (PS:List (List au)) (f:au) (w:World) (hS:PrS w P lo pv tv c d mb all PS) (hr:∀l∈PS,gW l) (hf:dz w fv f) (ho:iB PS f<PS.length) (ho1:1≤iB PS f) (hsm:PS.length≤1000000):
  Calls Tryz.prog 242 #[.pointer (some ⟨P,0,none⟩),fv] w fun e w'=>∃v',e=.returned v'∧Facts w' v' (PS.getD (iB PS f-1) [])∧Later w w':=by
 obtain⟨av,sv,xs,hB,hRp,hF,hxl,hx⟩:=hS.has;have hR:uO lo w sv xs:=by
  rcases hRp with⟨e,_⟩|h
  ·rw[e] at hxl;simp at hxl;omega
  ·exact h
 obtain⟨s,rfl,hs⟩:=hf;obtain⟨sa,sc,rfl⟩:=aW hs;obtain⟨w1,hw1⟩:∃w1,w1=w.alloc (.cells #[.string f.1,.slice sa f.2.length sc] 27):=⟨_,rfl⟩;have hL1:Later w w1:=by rw[hw1];exact(Later.refl w).alloc _
 have hr1:w1.heap[w.heap.size]?=some (.cells #[.string f.1,.slice sa f.2.length sc] 27 (0,0)):=by rw[hw1];exact heap_alloc_new w _
 have hR1:uO lo w1 sv xs:=hR.block fun k hk _=>hL1.block hk;have HIx:=hide (IL w.heap.size lo PS xs f sv (.slice sa f.2.length sc) w1 hR1 hxl (fun i u l hu hl=>(hx i u l hu hl).later hL1) hr (by rw[cell_of_row _ _ _ _ _ _ hr1];rfl) (by rw[cell_of_row _ _ _ _ _ _ hr1];rfl) (hs.later hL1) ho hsm);obtain⟨oi,hoi⟩:∃oi,oi=iB PS f:=⟨_,rfl⟩;rw[←hoi] at HIx ho ho1⊢;obtain⟨k,hko⟩:∃k,oi=k+1:=⟨oi-1,by omega⟩;obtain⟨l,hl⟩:∃l,PS[k]?=some l:=⟨_,List.getElem?_eq_getElem (by omega)⟩;obtain⟨u,hu⟩:∃u,xs[k]?=some u:=⟨_,List.getElem?_eq_getElem (by omega)⟩;have hgd:PS.getD (oi-1) []=l:=by rw[hko,Nat.add_sub_cancel,List.getD_eq_getElem?_getD,hl];rfl
 rw[hgd];have hFu:=hx k u l hu hl;have p5:w1.cell? ⟨P,5,none⟩=some sv:=((hB.below hL1.below).cells).2.2.2.2.2.1;have HP5:Hid (∀w',Later w1 w'→w'.cell? ⟨P,5,none⟩=some sv):=fun w' h=>(((hB.below hL1.below).below h.below).cells).2.2.2.2.2.1;have hown:=hR1.owns;obtain⟨g,cap,cur,rfl,hlo,hg,hnc,_⟩:=hR1;have hgl:g<w1.heap.size:=(Array.getElem?_eq_some_iff.1 hg).1;have hcell:=hown.cells (g:=g) rfl k u hu;rw[Addr.add_lit] at hcell;have HC:Hid (∀w',Later w1 w'→w'.cell? ⟨g,k,none⟩=some u):=fun w' h=>by rw[h.cell (p:=⟨g,k,none⟩) hgl];simpa using hcell
 obtain⟨ua,uc,rfl⟩:=aB hFu;have HFu:Hid (Facts w1 (.slice ua l.length uc) l):=hFu.later hL1;have HL1:=hide hL1;have HW1:=hide hw1;have hmf:∀(fn:Fn) (first cap:Array Value) (w:World),(Instr.makeFunc fn first cap).run Tryz.prog w=.ok (.func fn first cap) w:=fun _ _ _ _=>rfl;have hsub:IntKind.i64.wrap ((oi:Int)-1)=(k:Int):=by rw[IntKind.wrap_i64];omega
 rw[hxl] at HIx HP5 p5;obtain⟨np,hnp⟩:∃np,np=PS.length:=⟨_,rfl⟩;have hkx:(k:Int)<(np:Int):=by omega
 have Xp:k<np:=by omega
 rw[←hnp] at HIx HP5 p5;obtain⟨fn,aJ⟩:=f;dsimp only at*;clear hS hB hRp hF hx hR hs hr1 hl hu hgd hFu hown hg hcell hoi hw1 hL1 hko hxl hnp ho ho1 hsm hnc hr
 go_enter Tryz.func242,Tryz.ntmps242
 go_wp2_with (first|(rw[←HW1.out])|fail)
 refine HIx.out.mono ?_;rintro e w2 ⟨rfl,hL2⟩;have q5:=HP5.out w2 hL2;have qk:=HC.out w2 hL2;have HF2:=hide (HFu.out.later hL2);have HL2:=hide (HL1.out.trans hL2);clear hL2 HIx p5;go_wp2;go_ret;exact⟨_,rfl,HF2.out,HL2.out⟩
end Go.Proofs.YtafmbokfkbccaaaGreatDoor
