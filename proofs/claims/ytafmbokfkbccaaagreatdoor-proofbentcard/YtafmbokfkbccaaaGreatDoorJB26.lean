import Derived.Test.YtafmbokfkbccaaaGreatDoorJB15
import Derived.Test.YtafmbokfkbccaaaGreatDoorJB25
import Derived.Test.YtafmbokfkbccaaaGreatDoorJB18
import Derived.Test.YtafmbokfkbccaaaGreatDoorJB14
import Derived.Test.YtafmbokfkbccaaaGreatDoorJB5
import Derived.Test.YtafmbokfkbccaaaGreatDoorJB21
namespace Go.Proofs.YtafmbokfkbccaaaGreatDoor
open Go.RowKit Go.Sort
structure PrB (w:World) (P:Nat) (pv tv av:Value) (c d:Int) (sv:Value) (m:Nat):Prop where
 row:w.heap[P]?=some (.cells #[pv,tv,av,.int .i64 c,.int .i64 d,sv,.map (some m)] 115 (0,0))
theorem PrB.cells {w:World} {P:Nat} {pv tv av:Value} {c d:Int} {sv:Value} {m:Nat} (h:PrB w P pv tv av c d sv m):w.cell? ⟨P,0,none⟩=some pv∧w.cell? ⟨P,1,none⟩=some tv∧w.cell? ⟨P,2,none⟩=some av∧w.cell? ⟨P,3,none⟩=some (.int .i64 c)∧w.cell? ⟨P,4,none⟩=some (.int .i64 d)∧w.cell? ⟨P,5,none⟩=some sv∧w.cell? ⟨P,6,none⟩=some (.map (some m))∧P<w.heap.size:=by
 have h:=h.row;refine⟨?_,?_,?_,?_,?_,?_,?_,(Array.getElem?_eq_some_iff.1 h).1⟩ <;> (rw[cell_of_row _ _ _ _ _ _ h];rfl)
theorem PrB.block {w w':World} {P:Nat} {pv tv av:Value} {c d:Int} {sv:Value} {m:Nat} (h:PrB w P pv tv av c d sv m) (e:w'.heap[P]?=w.heap[P]?):PrB w' P pv tv av c d sv m:=⟨e.trans h.row⟩
theorem PrB.below {w w':World} {P:Nat} {pv tv av:Value} {c d:Int} {sv:Value} {m:Nat} (h:PrB w P pv tv av c d sv m) (k:Below w.heap.size w w'):PrB w' P pv tv av c d sv m:=h.block (k.block P h.cells.2.2.2.2.2.2.2)
def ByV (lo:Nat) (w:World) (v:Value):Option (List aj)→Prop
 |none=>v=.slice none 0 0
 |some of=>dU (From lo) w v of
abbrev lu (all:List aj):List aF→Int:=fun b=>pO b all []
theorem yZ {w:World} {v:Value} {er:Int} {body:List aF} {all:List aj} (h:Dc w v er body all (-1) []):sH.sl bJ w v (oK body all (lu all body)):=by
 unfold Dc at h;unfold oK lu;split at h
 ·rename_i h0;rw[if_pos h0,h.1];exact Kind.gF _ _ _ _ _
 ·rename_i h0;rw[if_neg h0];rw[yE] at h;cases e:lF (fun _=>all) body with
  |none=>
   rw[e] at h;rw[h.1];exact Kind.gF _ _ _ _ _
  |some R=>
   rw[e] at h;exact h.2
theorem y5 {body:List aF} {all:List aj} {er:Int}:(oK body all er).length≤20000:=by
 unfold oK;split
 ·simp
 ·cases e:lF (fun _=>all) body with
  |none=>simp
  |some R=>exact oh e
theorem BS {of old:List aj}:(of.filter fun f=> !dA old f 0)=[]↔of.all (inB old)=true:=by
 rw[List.filter_eq_nil_iff,List.all_eq_true]
 constructor
 ·intro h f hf;have:=h f hf;rw[sN] at this;simpa using this
 ·intro h f hf;rw[sN,h f hf];simp
theorem Gl {α:Type} {P:α→Bool} {l:List α} {j:Nat} {x:α} (h:l[j]?=some x):(l.drop j).find? P=if P x then some x else(l.drop (j+1)).find? P:=by
 obtain⟨hi,e⟩:=List.getElem?_eq_some_iff.1 h;rw[List.drop_eq_getElem_cons hi,e,List.find?_cons];cases P x <;> rfl
set_option maxRecDepth 100000 in
set_option maxHeartbeats 8000000 in
theorem byC (all old:List aj) (r:aA) (f:aj) (P:Nat) (pv tv av hv bv fv ov sv:Value) (c d:Int) (m:Nat) (w:World) (hP:PrB w P pv tv av c d sv m) (hh:dn.sl bJ w hv r.head.terms) (hb:bN.sl bJ w bv r.body) (hf:bW w fv f) (ho:Facts w ov old) (ha:Facts w av all) (hro:fI old)
  (h4:r.head.terms.length≤4) (h5:r.body.length≤5) (hbt:∀a∈r.body,a.terms.length≤4):
  Calls Tryz.prog 243 #[.pointer (some ⟨P,0,none⟩),.agg #[.bool r.head.no,.string (bs r.head.name),hv,bv],fv,ov] w fun e w'=>∃v',e=.returned (.tuple #[v',.bool (byP (lu all) all old r f).isSome])∧ByV w.heap.size w' v' (byP (lu all) all old r f)∧Below w.heap.size w w':=by
 obtain⟨s,rfl,hs⟩:=hf;obtain⟨sa,sc,rfl⟩:=aZ hs;obtain⟨ha',hc',rfl⟩:=Kind.slice hh;obtain⟨ba,bc,rfl⟩:=Kind.slice hb;obtain⟨aa,ac,rfl⟩:=aD ha;obtain⟨oa,oc,rfl⟩:=aD ho;have hPl:=hP.cells.2.2.2.2.2.2.2;obtain⟨w1,hw1⟩:∃w1,w1=(w.alloc (.cells #[.bool r.head.no,.string (bs r.head.name),.slice ha' r.head.terms.length hc',.slice ba r.body.length bc] 87)).alloc (.cells #[.string f.1,.slice sa f.2.length sc] 27):=⟨_,rfl⟩;have hL1:Later w w1:=by rw[hw1];exact((Later.refl w).alloc _).alloc _
 have hs1:w1.heap.size=w.heap.size+2:=by rw[hw1];simp
 have hr0:w1.heap[w.heap.size]?=some (.cells #[.bool r.head.no,.string (bs r.head.name),.slice ha' r.head.terms.length hc',.slice ba r.body.length bc] 87 (0,0)):=by
  rw[hw1];simp only[bO,World.size_alloc]
  repeat (first|rw[if_pos trivial]|rw[if_pos (by omega)]|rw[if_neg (by omega)])
 have hr1:w1.heap[w.heap.size+1]?=some (.cells #[.string f.1,.slice sa f.2.length sc] 27 (0,0)):=by
  rw[hw1];simp only[bO,World.size_alloc]
  repeat (first|rw[if_pos trivial]|rw[if_pos (by omega)]|rw[if_neg (by omega)])
 have HMe:=hide (Ig r.head (.slice ha' r.head.terms.length hc') (.agg #[.string f.1,.slice sa f.2.length sc]) (.slice none 0 0) f [] w1 (Kind.aI hh hL1) ⟨_,rfl,hs.later hL1⟩ (Kind.gF _ _ _ _ _) (by simp;omega));have a0:w1.cell? ⟨w.heap.size,0,none⟩=some (.bool r.head.no):=by rw[cell_of_row _ _ _ _ _ _ hr0];rfl
 have a1:w1.cell? ⟨w.heap.size,0+1,none⟩=some (.string (bs r.head.name)):=by rw[cell_of_row _ _ _ _ _ _ hr0];rfl
 have a2:w1.cell? ⟨w.heap.size,0+2,none⟩=some (.slice ha' r.head.terms.length hc'):=by rw[cell_of_row _ _ _ _ _ _ hr0];rfl
 have f0:w1.cell? ⟨w.heap.size+1,0,none⟩=some (.string f.1):=by rw[cell_of_row _ _ _ _ _ _ hr1];rfl
 have f1:w1.cell? ⟨w.heap.size+1,0+1,none⟩=some (.slice sa f.2.length sc):=by rw[cell_of_row _ _ _ _ _ _ hr1];rfl
 obtain⟨BP,hBP⟩:∃BP,BP=byP (lu all) all old r f:=⟨_,rfl⟩;rw[←hBP];have HPr:=hide hP;have HB:=hide hb;have HO:=hide ho;have HAl:=hide ha;have HRo:=hide hro;have HBT:=hide hbt;have HL1:=hide hL1;have HR0:=hide hr0;have HW1:=hide hw1;unfold byP at hBP;clear hP hh hb hs ho ha hro hbt hL1 hr0 hr1 hw1;cases hm:dL r.head f [] with
 |none=>
  rw[hm] at HMe hBP;dsimp only at hBP;simp only[Option.isSome_none] at HMe;subst hBP;simp only[Option.isSome_none];clear hm;obtain⟨fn,aH⟩:=f;dsimp only at*;generalize bs r.head.name=nm at*;generalize r.head.no=no at*
  go_enter Tryz.func243,Tryz.ntmps243
  go_wp2_with (first|(rw[←HW1.out])|fail)
  refine HMe.out.mono ?_;rintro e w2 ⟨v2,rfl,hv2,hL2⟩;obtain rfl:v2=.slice none 0 0:=hv2;have HB2:=hide ((HL1.out.trans hL2).below);clear hL2 HMe;go_wp2;exact bodyPost_ret (v:=.tuple #[.slice none 0 0,.bool false]) (by simp[results,Tryz.results243,go_sem]) rfl ⟨_,rfl,rfl,HB2.out⟩
 |some b0=>
  rw[hm] at HMe hBP;dsimp only at hBP;simp only[Option.isSome_some] at HMe;have hb0:=wu hm;simp only[List.length_nil] at hb0;have HBP:=hide hBP;clear hm hBP;obtain⟨fn,aH⟩:=f;dsimp only at*;obtain⟨hd,body⟩:=r;dsimp only at*;generalize bs hd.name=nm at*;generalize hd.no=no at*
  go_enter Tryz.func243,Tryz.ntmps243
  go_wp2_with (first|(rw[←HW1.out])|fail)
  refine HMe.out.mono ?_;rintro e w2 ⟨v2,rfl,hv2,hL2⟩;have Nt:bA.own 190 w1.heap.size w2 v2 b0:=hv2;have hb2:bA.sl bJ w2 v2 b0:=Kind.dN (Kind.gW Nt (by omega));have I9:=HL1.out.trans hL2;have HBo:=hide (Nv b0 body (.slice ba body.length bc) v2 w2 (Kind.aI HB.out I9) hb2 (by omega) (fun a ha=>by have:=HBT.out a ha;omega));obtain⟨va,vn,vc,rfl⟩:∃a n c,v2=.slice a n c:=by obtain⟨a,c,e⟩:=Kind.slice hb2;exact⟨a,_,c,e⟩
  have hr2:=(hL2.block (by omega)).trans HR0.out;have k3:w2.cell? ⟨w.heap.size,3,none⟩=some (.slice ba body.length bc):=by rw[cell_of_row _ _ _ _ _ _ hr2];rfl
  have HB2:=hide I9.below;clear hv2 Nt hb2 hL2 hr2 HMe a0 a1 a2 f0 f1 HW1 I9
  go_wp2_with fail
  refine HBo.out.mono ?_;rintro e w3 ⟨v3,rfl,hv3,hB3⟩;have HB3:=hide (ak HB2.out hB3 HB2.out.size);have HAc:=hide (QG (dS b0 body) v3 (.slice aa all.length ac) all w3 hv3 (HAl.out.below HB3.out));have HV3:=hide hv3;obtain⟨xa,xn,xc,rfl⟩:∃a n c,v3=.slice a n c:=by obtain⟨a,c,e⟩:=Kind.slice hv3;exact⟨a,_,c,e⟩
  have p2:=(HPr.out.below HB3.out).cells.2.2.1;clear hv3 hB3 HBo k3
  go_wp2_with fail
  refine HAc.out.mono ?_;rintro e w4 ⟨v4,er4,rfl,hT4,hB4⟩;have HB4:=hide (ak HB3.out hB4 HB3.out.size);have hS4:=yZ hT4;have HS4:=hide hS4;have hls:=y5 (body:=dS b0 body) (all:=all) (er:=lu all (dS b0 body));have HV4:=hide (Kind.aR HV3.out hB4);obtain⟨LS,hLS⟩:∃LS,LS=oK (dS b0 body) all (lu all (dS b0 body)):=⟨_,rfl⟩;rw[←hLS] at HS4 HBP hls;obtain⟨la,lc,hlv⟩:=Kind.slice HS4.out;subst hlv;have hbb:(dS b0 body).length≤1000:=by unfold dS;rw[List.length_map];omega
  have HFi:Hid (∀(l:List aC) (lv:Value) (w':World),Below w4.heap.size w4 w'→bA.sl bJ w' lv l→Calls Tryz.prog 292 #[.slice xa xn xc,lv] w' fun e w''=>∃v',e=.returned v'∧gT w'' w'.heap.size v' (fB (dS b0 body) l)∧Later w' w''):=fun l lv w' h hl=>
   Lf (dS b0 body) l _ lv w' (Kind.aR HV4.out h) hl hbb
  have HFl:Hid (∀l,(fB (dS b0 body) l).length≤1000):=fun l=>Nat.le_trans (mg _ _) hbb;generalize fB (dS b0 body)=FL at*;clear hT4 hS4 hB4 HAc hLS p2 HV3 HV4 hbb;go_wp2
  go_loopg [43] LS.length (fun g i wr=>∃j:Nat,j+g=LS.length∧i=.int .i64 j∧Hid (BP=((LS.map FL).drop j).find? fun of=>of.all (inB old))∧Hid (Below w4.heap.size w4 wr))
  case atStart=>exact⟨0,by omega,rfl,(by rw[List.drop_zero];exact HBP.out:_=_),Below.refl _ _⟩
  case round=>
   obtain⟨j,hj,rfl,HF,HW⟩:=hrel
   by_cases hlt:j<LS.length
   ·obtain⟨l,hl⟩:∃l,LS[j]?=some l:=⟨_,List.getElem?_eq_getElem hlt⟩;obtain⟨b1,o1,_,e1,hb1,⟨lv,hce,hlv⟩,hc⟩:=Kind.fP HS4.out hl;subst e1;subst hce;have d0:wr.cell? ⟨b1,o1+j,none⟩=some lv:=by rw[HW.out.cell (p:=⟨b1,o1+j,none⟩) hb1];simpa[slK] using hc 0 _ rfl
    have hfd:=Gl (P:=fun of:List aj=>of.all (inB old)) (l:=LS.map FL) (j:=j) (x:=FL l) (by rw[List.getElem?_map,hl];rfl);have H5:=hide (HFi.out l lv wr HW.out (Kind.aR hlv HW.out));have hfl:=HFl.out l;obtain⟨ya,yc,rfl⟩:=Kind.slice hlv;have HFd:=hide hfd;clear hc hl hlv hfd
    go_wp2_with fail
    refine H5.out.mono ?_;rintro e w5 ⟨v5,rfl,hO5,hL5⟩;have hF5:=hO5.facts (by omega);have hB5:=ak HW.out hL5.below HW.out.size;have HLs:=hide (OX v5 (.slice oa old.length oc) (FL l) old w5 hF5 (HO.out.below (ak HB4.out hB5 HB4.out.size)) HRo.out);obtain⟨za,zc,hzv⟩:=aD hF5;subst hzv;have hsW:=HW.out.size;have hsB:=HB4.out.size;have HF5:Hid (dU (From w.heap.size) w5 (.slice za (FL l).length zc) (FL l)):=(hO5.Nu hfl).mono fun k _ (h:wr.heap.size≤k)=>(by show w.heap.size≤k;omega);have HB5:=hide hB5;clear hO5 hL5 hF5 hB5 H5 d0
    go_wp2_with fail
    refine HLs.out.mono ?_;rintro e w6 ⟨v6,rfl,hO6,hL6⟩;have Nw:((FL l).filter fun f=> !dA old f 0).length≤(FL l).length:=List.length_filter_le _ _;obtain⟨qa,qc,hqv⟩:=aD (hO6.facts (by omega));subst hqv;have HB6:=hide (ak HB5.out hL6.below HB5.out.size);have HF6:=hide (HF5.out.below hL6.below);cases hall:(FL l).all (inB old) with
    |true=>
     have he:((FL l).filter fun f=> !dA old f 0)=[]:=BS.2 hall;have HE:Hid (BP=some (FL l)):=by show _=_;rw[HF.out,HFd.out,hall];rfl
     rw[he];have hz:decide ((0:Nat)=0)=true:=rfl;clear hO6 hL6 HLs Nw hall he HFd HF;simp only[List.length_nil];go_wp2;refine bodyPost_ret (v:=.tuple #[.slice za (FL l).length zc,.bool true]) (by simp[results,Tryz.results243,go_sem]) rfl ⟨.slice za (FL l).length zc,?_,?_,ak HB4.out HB6.out HB4.out.size⟩
     ·rw[HE.out];rfl
     ·rw[HE.out];exact HF6.out
    |false=>
     have hne:¬((FL l).filter fun f=> !dA old f 0)=[]:=fun e=>by rw[BS.1 e] at hall;cases hall
     have hpos:=List.length_pos_iff.2 hne;have HE:Hid (BP=((LS.map FL).drop (j+1)).find? fun of=>of.all (inB old)):=by show _=_;rw[HF.out,HFd.out,hall];rfl
     generalize((FL l).filter fun f=> !dA old f 0).length=nn at*;have hz:((nn:Int)==0)=false:=by simp;omega
     clear hO6 hL6 HLs Nw hall hne HFd HF;go_wp2
     go_roundg (LS.length- (j+1))
     case measure=>omega
     case rel=>exact⟨j+1,by omega,by go_num,HE,HB6⟩
   ·have HE:Hid (BP=none):=by show _=_;rw[HF.out,List.drop_eq_nil_of_le (by rw[List.length_map];omega)];rfl
    clear HF;go_wp2;refine bodyPost_ret (v:=.tuple #[.slice none 0 0,.bool false]) (by simp[results,Tryz.results243,go_sem]) rfl ⟨.slice none 0 0,?_,?_,ak HB4.out HW.out HB4.out.size⟩
    ·rw[HE.out];rfl
    ·rw[HE.out];exact rfl
end Go.Proofs.YtafmbokfkbccaaaGreatDoor
namespace Go.Proofs.YtafmbokfkbccaaaGreatDoor
open Go.RowKit Go.Sort Go.Maps
def mo (u:Value):Prop:=∃a n c,u=.slice a n c
def rT (lo:Nat) (w:World) (v:Value) (xs:List Value):Prop:=
 ∃g cap cur,v=.slice (some ⟨g,0,none⟩) xs.length cap∧lo≤g∧w.heap[g]?=some (.cells cur 24 (0,0))∧xs.length≤cap∧cap≤maxLen∧cur.size=cap∧cur.toList.take xs.length=xs∧∀u∈cur.toList,mo u
theorem rT.owns {lo:Nat} {w:World} {v:Value} {xs:List Value} (h:rT lo w v xs):w.ownsRow lo 24 1 v xs.length xs:=by
 obtain⟨g,cap,cur,rfl,h1,h2,h3,h4,h5,h6,_⟩:=h;exact⟨by simp,Or.inr ⟨g,cap,cur,rfl,h1,h2,h3,h4,by rw[h5];omega,by rw[Nat.mul_one];exact h6⟩⟩
theorem rT.block {lo:Nat} {w w':World} {v:Value} {xs:List Value} (h:rT lo w v xs) (hk:∀k,k<w.heap.size→lo≤k→w'.heap[k]?=w.heap[k]?):rT lo w' v xs:=by
 obtain⟨g,cap,cur,e,h1,h2,h3⟩:=h;exact⟨g,cap,cur,e,h1,(hk g (Array.getElem?_eq_some_iff.1 h2).1 h1).trans h2,h3⟩
theorem rT.Lh {lo:Nat} {w:World} {v:Value} {xs:List Value} (h:rT lo w v xs) {b off:Nat} {s:ByteArray} (hc:w.cell? ⟨b,off,none⟩=some (.string s)):v.ownBlock≠some b:=fun e=>by
 obtain⟨g,cap,cur,rfl,_,h2,_,_,_,_,h7⟩:=h;simp only[Value.ownBlock,Option.some.injEq] at e;subst e;rw[cell_of_row _ _ _ _ _ _ h2] at hc;have hm:(Value.string s)∈cur.toList:=by
  rw[Array.mem_toList_iff];exact Array.mem_of_getElem? hc
 obtain⟨a,n,c,e⟩:=h7 _ hm;cases e
theorem AJ {lo:Nat} {w w':World} {v:Value} {xs:List Value} (h:rT lo w v xs) (hg:w.grownBy w' v.ownBlock) {u:Value} {l:List aG} (hf:Facts w u l):Facts w' u l:=by
 have key:∀{b off:Nat} {s:ByteArray},w.cell? ⟨b,off,none⟩=some (.string s)→w'.heap[b]?=w.heap[b]?:=fun {b off s} hc=>
  hg.block b (World.block_lt_of_cell? w _ hc) (fun e=>h.Lh hc e.symm)
 have cell_of:∀{b off:Nat},w'.heap[b]?=w.heap[b]?→w'.cell? ⟨b,off,none⟩=w.cell? ⟨b,off,none⟩:=fun {b off} e=>by
  unfold World.cell?;dsimp only;rw[e]
 have strs:∀{q:Value} {r:List ByteArray},Strs w q r→Strs w' q r:=fun {q r} hs=>by
  obtain⟨h0,a,cap,rfl,h1⟩:=hs;refine⟨h0,a,cap,rfl,fun hl=> ?_⟩;obtain⟨b,off,rfl,hb,hc⟩:=h1 hl;refine⟨b,off,rfl,Nat.lt_of_lt_of_le hb hg.size,fun i hi=> ?_⟩;rw[cell_of (key (hc i hi))];exact hc i hi
 obtain⟨h0,a,cap,rfl,h1⟩:=hf;refine⟨h0,a,cap,rfl,fun hl=> ?_⟩;obtain⟨b,off,rfl,hb,hc⟩:=h1 hl;refine⟨b,off,rfl,Nat.lt_of_lt_of_le hb hg.size,fun i hi=> ?_⟩;obtain⟨c1,s,c2,c3⟩:=hc i hi;exact⟨by rw[cell_of (key c1)];exact c1,s,by rw[cell_of (key c1)];exact c2,strs c3⟩
theorem uH:∃i,Tryz.prog.info? 24=some i∧i.zero=some (.slice none 0 0)∧i.size=1∧i.bytes=24:=⟨Tryz.t24,by kernel_rfl,by kernel_rfl,by kernel_rfl,by kernel_rfl⟩
set_option maxRecDepth 100000 in
theorem rT.more {lo:Nat} {w:World} {v:Value} {xs:List Value} (h:rT lo w v xs) (hlo:lo≤w.heap.size) {u:Value} (hu:mo u) (hl:xs.length+1≤1000000):
  ∃v' w',(Builtin.append_ #[113,113] 113 #[v,.slice (some ⟨w.heap.size,0,none⟩) 1 1]).run Tryz.prog (w.alloc (.cells #[u] 24))=.ok v' w'∧rT lo w' v' (xs++[u])∧(w.alloc (.cells #[u] 24)).grownBy w' v.ownBlock:=by
 obtain⟨i,i1,i2,i3,i4⟩:=uH;have hown:=(h.owns).alloc (.cells #[u] 24);have hnews:∀j x,[u][j]?=some x→(w.alloc (.cells #[u] 24)).cell? ((⟨w.heap.size,0,none⟩:Addr).add j)=some x:=fun j x hx=>by
  rw[Addr.add_lit,Nat.zero_add,cell_of_row _ w.heap.size j #[u] 24 (0,0) (heap_alloc_new w _)];simpa using hx
 have hone:∀x∈[u],x.oneCell'=true:=fun x hx=>by obtain⟨a,n,c,rfl⟩:=hu;simp at hx;subst hx;rfl
 obtain⟨v',w',hrun,r1,r2,r3,r4⟩:=eT (P:=Tryz.prog) (w.alloc (.cells #[u] 24)) lo 113 113 24 i _ 1 24 Tryz.underlying113 i1 i2 i3 i4 rfl (by omega) v xs.length xs hown ⟨w.heap.size,0,none⟩ 1 1 [u] rfl hnews hone (by simp only[maxLen];omega) (by omega) (by simp;omega);refine⟨v',w',hrun,?_,r2⟩;obtain⟨g,cap,cur,rfl,h1,h2,h3,h4,h5,h6,h7⟩:=h;have h2':(w.alloc (.cells #[u] 24)).heap[g]?=some (.cells cur 24 (0,0)):=by rw[Below.heap_alloc _ _ _ (Array.getElem?_eq_some_iff.1 h2).1];exact h2
 by_cases hroom:xs.length+1≤cap
 ·rw[run_append_room (P:=Tryz.prog) _ 113 113 24 i Tryz.underlying113 i1 g xs.length cap cur h2' ⟨w.heap.size,0,none⟩ 1 1 [u] (by rw[i3];rfl) hnews hone hroom (by rw[i3,h5];simp;omega)] at hrun;simp only[Result.ok.injEq] at hrun;obtain⟨rfl,rfl⟩:=hrun;rw[i3,Nat.mul_one,h6] at r1⊢;rcases r1.2 with⟨e,_⟩|⟨g',cap',cur',e,k1,k2,k3,k4,k5,k6⟩
  ·cases e
  ·injection e with e1 e2 e3
   injection e1 with e1
   injection e1 with e1
   subst e1;subst e3;refine⟨g,cap,cur',by simp,k1,k2,by simpa using k3,k4,by simpa using k5,by simpa using k6,fun y hy=> ?_⟩;have hcur:cur'=(xs++[u]++cur.toList.drop (xs.length+1)).toArray:=by
    have hh:=setRow_heap (w.alloc (.cells #[u] 24)) g cur (xs++[u]++cur.toList.drop (xs.length+[u].length)).toArray 24 _ h2';have hh2:=k2.symm.trans hh;simp only[Option.some.injEq,Obj.cells.injEq] at hh2;exact hh2.1
   rw[hcur] at hy;simp only[List.mem_append,List.mem_singleton] at hy;rcases hy with(hy|hy)|hy
   ·exact h7 y (by rw[←h6] at hy;exact List.mem_of_mem_take hy)
   ·rw[hy];exact hu
   ·exact h7 y (List.mem_of_mem_drop hy)
 ·rw[run_append_grow (P:=Tryz.prog) _ 113 113 24 i _ Tryz.underlying113 i1 i2 ⟨g,0,none⟩ xs.length cap xs (by rw[i3,Nat.mul_one]) (hown.cells (g:=g) rfl) ⟨w.heap.size,0,none⟩ 1 1 [u] (by rw[i3];rfl) hnews (by omega) (by omega) (growslice_fits (by omega) (by rw[i4];omega))] at hrun;simp only[Result.ok.injEq] at hrun;obtain⟨rfl,rfl⟩:=hrun;rcases r1.2 with⟨e,_⟩|⟨g',cap',cur',e,k1,k2,k3,k4,k5,k6⟩
  ·cases e
  ·injection e with e1 e2 e3
   injection e1 with e1
   injection e1 with e1
   subst e1;subst e3;refine⟨_,_,cur',by simp,k1,k2,by simpa using k3,k4,by simpa using k5,by simpa using k6,fun y hy=> ?_⟩;have hn:=heap_alloc_new (w.alloc (.cells #[u] 24)).drew (.cells (xs.toArray++[u].toArray++Builtin.zeroCells (Value.slice none 0 0).cells (grownCap (w.alloc (.cells #[u] 24)) (xs.length+1) cap 24- (xs.length+1))) 24);have k2':=hn.symm.trans k2
   injection k2' with k2'
   injection k2' with k2'
   rw[←k2'] at hy;simp only[Array.toList_append,List.mem_append,List.mem_singleton] at hy;rcases hy with(hy|hy)|hy
   ·exact h7 y (by rw[←h6] at hy;exact List.mem_of_mem_take hy)
   ·rw[hy];exact hu
   ·unfold Builtin.zeroCells at hy;simp only[Value.cells] at hy;rw[Array.mem_toList_iff,Array.mem_map] at hy;obtain⟨q,_,rfl⟩:=hy;exact⟨none,0,0,by simp[Nat.mod_one]⟩
set_option maxRecDepth 100000 in
theorem rT.first {lo:Nat} {w:World} (hlo:lo≤w.heap.size) {u:Value} (hu:mo u):
  ∃v' w',(Builtin.append_ #[113,113] 113 #[.slice none 0 0,.slice (some ⟨w.heap.size,0,none⟩) 1 1]).run Tryz.prog (w.alloc (.cells #[u] 24))=.ok v' w'∧rT lo w' v' [u]∧(w.alloc (.cells #[u] 24)).grownBy w' none:=by
 obtain⟨i,i1,i2,i3,i4⟩:=uH;have hown:=World.ownsRow_nil (w.alloc (.cells #[u] 24)) lo 24 1;have hnews:∀j x,[u][j]?=some x→(w.alloc (.cells #[u] 24)).cell? ((⟨w.heap.size,0,none⟩:Addr).add j)=some x:=fun j x hx=>by
  rw[Addr.add_lit,Nat.zero_add,cell_of_row _ w.heap.size j #[u] 24 (0,0) (heap_alloc_new w _)];simpa using hx
 have hone:∀x∈[u],x.oneCell'=true:=fun x hx=>by obtain⟨a,n,c,rfl⟩:=hu;simp at hx;subst hx;rfl
 obtain⟨v',w',hrun,r1,r2,r3,r4⟩:=eT (P:=Tryz.prog) (w.alloc (.cells #[u] 24)) lo 113 113 24 i _ 1 24 Tryz.underlying113 i1 i2 i3 i4 rfl (by omega) (.slice none 0 0) 0 [] hown ⟨w.heap.size,0,none⟩ 1 1 [u] rfl hnews hone (by simp only[maxLen];omega) (by omega) (by simp;omega);refine⟨v',w',hrun,?_,r2⟩;rw[run_append_nil (P:=Tryz.prog) _ 113 113 24 i _ Tryz.underlying113 i1 i2 ⟨w.heap.size,0,none⟩ 1 1 [u] (by rw[i3];rfl) hnews (by omega) (by omega) (by rw[i4];omega)] at hrun;simp only[Result.ok.injEq] at hrun;obtain⟨rfl,rfl⟩:=hrun;rcases r1.2 with⟨e,_⟩|⟨g',cap',cur',e,k1,k2,k3,k4,k5,k6⟩
 ·cases e
 ·injection e with e1 e2 e3
  injection e1 with e1
  injection e1 with e1
  subst e1;subst e3;refine⟨_,_,cur',by simp,k1,k2,by simpa using k3,k4,by simpa using k5,by simpa using k6,fun y hy=> ?_⟩;have hn:=heap_alloc_new (w.alloc (.cells #[u] 24)).drew (.cells ([u].toArray++Builtin.zeroCells (Value.slice none 0 0).cells (grownCap (w.alloc (.cells #[u] 24)) 1 0 24-1)) 24);have k2':=hn.symm.trans k2
  injection k2' with k2'
  injection k2' with k2'
  rw[←k2'] at hy;simp only[Array.toList_append,List.mem_append] at hy;rcases hy with hy|hy
  ·simp at hy;rw[hy];exact hu
  ·unfold Builtin.zeroCells at hy;simp only[Value.cells] at hy;rw[Array.mem_toList_iff,Array.mem_map] at hy;obtain⟨q,_,rfl⟩:=hy;exact⟨none,0,0,by simp[Nat.mod_one]⟩
def oW (w:World) (b:Nat):Prop:=∀(off:Nat) (s:ByteArray),w.cell? ⟨b,off,none⟩≠some (.string s)
theorem rU {w w':World} {b:Nat} (h:oW w b) (hg:Tn b w w') {u:Value} {l:List aG} (hf:Facts w u l):Facts w' u l:=by
 have key:∀{q off:Nat} {s:ByteArray},w.cell? ⟨q,off,none⟩=some (.string s)→w'.heap[q]?=w.heap[q]?:=fun {q off s} hc=>
  hg.block q (World.block_lt_of_cell? w _ hc) (fun e=>by subst e;exact h _ _ hc)
 have cell_of:∀{q off:Nat},w'.heap[q]?=w.heap[q]?→w'.cell? ⟨q,off,none⟩=w.cell? ⟨q,off,none⟩:=fun {q off} e=>by
  unfold World.cell?;dsimp only;rw[e]
 have strs:∀{q:Value} {r:List ByteArray},Strs w q r→Strs w' q r:=fun {q r} hs=>by
  obtain⟨h0,a,cap,rfl,h1⟩:=hs;refine⟨h0,a,cap,rfl,fun hl=> ?_⟩;obtain⟨b,off,rfl,hb,hc⟩:=h1 hl;refine⟨b,off,rfl,Nat.lt_of_lt_of_le hb hg.size,fun i hi=> ?_⟩;rw[cell_of (key (hc i hi))];exact hc i hi
 obtain⟨h0,a,cap,rfl,h1⟩:=hf;refine⟨h0,a,cap,rfl,fun hl=> ?_⟩;obtain⟨b,off,rfl,hb,hc⟩:=h1 hl;refine⟨b,off,rfl,Nat.lt_of_lt_of_le hb hg.size,fun i hi=> ?_⟩;obtain⟨c1,s,c2,c3⟩:=hc i hi;exact⟨by rw[cell_of (key c1)];exact c1,s,by rw[cell_of (key c1)];exact c2,strs c3⟩
end Go.Proofs.YtafmbokfkbccaaaGreatDoor
namespace Go.Proofs.YtafmbokfkbccaaaGreatDoor
open Go.RowKit Go.Sort
theorem PrB.uI {w:World} {P:Nat} {pv tv av:Value} {c d:Int} {sv:Value} {m:Nat} (h:PrB w P pv tv av c d sv m) (hp:mo pv) (ht:mo tv) (ha:mo av) (hs:mo sv):oW w P:=fun off s e=>by
 obtain⟨a1,n1,c1,rfl⟩:=hp;obtain⟨a2,n2,c2,rfl⟩:=ht;obtain⟨a3,n3,c3,rfl⟩:=ha;obtain⟨a4,n4,c4,rfl⟩:=hs;rw[cell_of_row _ _ _ _ _ _ h.row] at e;rcases off with _|_|_|_|_|_|_|off <;> simp at e
def sP (lo:Nat) (w:World) (sv:Value) (xs:List Value):Prop:=(xs=[]∧sv=.slice none 0 0)∨rT lo w sv xs
theorem sP.mo {lo:Nat} {w:World} {sv:Value} {xs:List Value} (h:sP lo w sv xs):mo sv:=by
 rcases h with⟨_,rfl⟩|⟨g,cap,cur,rfl,_⟩
 ·exact⟨_,_,_,rfl⟩
 ·exact⟨_,_,_,rfl⟩
theorem sP.lo {lo:Nat} {w:World} {sv:Value} {xs:List Value} (h:sP lo w sv xs):∀k,sv.ownBlock=some k→lo≤k∧k<w.heap.size:=fun k e=>by
 rcases h with⟨_,rfl⟩|h
 ·cases e
 ·exact h.owns.lt k e
theorem sP.more {lo:Nat} {w:World} {sv:Value} {xs:List Value} (h:sP lo w sv xs) (hlo:lo≤w.heap.size) {u:Value} (hu:Go.Proofs.YtafmbokfkbccaaaGreatDoor.mo u) (hl:xs.length+1≤1000000):
  ∃v' w',(Builtin.append_ #[113,113] 113 #[sv,.slice (some ⟨w.heap.size,0,none⟩) 1 1]).run Tryz.prog (w.alloc (.cells #[u] 24))=.ok v' w'∧rT lo w' v' (xs++[u])∧(w.alloc (.cells #[u] 24)).grownBy w' sv.ownBlock∧∀v l,Facts (w.alloc (.cells #[u] 24)) v l→Facts w' v l:=by
 rcases h with⟨rfl,rfl⟩|h
 ·obtain⟨v',w',h1,h2,h3⟩:=rT.first hlo hu
  refine⟨v',w',h1,h2,h3,fun v l hf=>hf.below ⟨h3.os,h3.tape,h3.output,h3.size,fun k hk=>h3.block k hk (fun e=>by cases e)⟩⟩
 ·obtain⟨v',w',h1,h2,h3⟩:=h.more hlo hu hl;refine⟨v',w',h1,h2,h3,fun v l hf=> ?_⟩;have hR:rT lo (w.alloc (.cells #[u] 24)) sv xs:=h.block fun k hk _=>Below.heap_alloc w _ k hk;exact AJ hR h3 hf
set_option maxRecDepth 100000 in
set_option maxHeartbeats 4000000 in
theorem PW (P lo:Nat) (pv tv av u sv:Value) (c d:Int) (mb:Nat) (xs:List Value) (w:World) (hP:PrB w P pv tv av c d sv mb) (hS:sP lo w sv xs) (Oq:P<lo) (hlw:lo≤w.heap.size) (hp:mo pv) (ht:mo tv) (ha:mo av) (hu:mo u) (hl:xs.length+1≤1000000):
  Calls Tryz.prog 102 #[.pointer (some ⟨P,0,none⟩),u] w fun e w'=>e=.returned (.tuple #[])∧∃sv',PrB w' P pv tv u c d sv' mb∧rT lo w' sv' (xs++[u])∧(∀v l,Facts w v l→Facts w' v l)∧(∀k,k<w.heap.size→k≠P→sv.ownBlock≠some k→w'.heap[k]?=w.heap[k]?)∧Below P w w':=by
 have hnt:=hP.uI hp ht ha hS.mo;obtain⟨p0,p1,p2,p3,p4,p5,p6,hPl⟩:=hP.cells;obtain⟨wA,hwA⟩:∃wA,wA=w.setCell ⟨P,2,none⟩ u:=⟨_,rfl⟩;have hTA:Tn P w wA:=by rw[hwA];exact Tn.setCell (p:=P) (Tn.refl _ _) (x:=⟨P,2,none⟩) (Or.inl rfl) _
 have hRA:wA.heap[P]?=some (.cells #[pv,tv,u,.int .i64 c,.int .i64 d,sv,.map (some mb)] 115 (0,0)):=by rw[hwA,dY (j:=2) hP.row];rfl
 have hSA:sP lo wA sv xs:=by
  rcases hS with e|h
  ·exact Or.inl e
  ·exact Or.inr (h.block fun k hk hlo=>hTA.block k hk (by omega))
 have hszA:=hTA.size;obtain⟨v',wB,hrun,hRB,hgB,hFB⟩:=hSA.more (by omega) hu hl;have Ra:=hSA.lo;have hlo:=hS.lo;have Gm:wB.heap[P]?=some (.cells #[pv,tv,u,.int .i64 c,.int .i64 d,sv,.map (some mb)] 115 (0,0)):=by
  rw[hgB.block P (by simp;omega) (fun e=>by have:=(Ra P e.symm).1;omega),Below.heap_alloc _ _ _ (by omega)];exact hRA
 obtain⟨wC,hwC⟩:∃wC,wC=wB.setCell ⟨P,5,none⟩ v':=⟨_,rfl⟩;have hTC:Tn P wB wC:=by rw[hwC];exact Tn.setCell (p:=P) (Tn.refl _ _) (x:=⟨P,5,none⟩) (Or.inl rfl) _
 have hRC:wC.heap[P]?=some (.cells #[pv,tv,u,.int .i64 c,.int .i64 d,v',.map (some mb)] 115 (0,0)):=by rw[hwC,dY (j:=5) Gm];rfl
 have Rb:=hgB.size;simp only[World.size_alloc] at Rb;have Rc:rT lo wC v' (xs++[u]):=hRB.block fun k hk hlo=>hTC.block k hk (by omega);have hsv:mo sv:=hS.mo;have Rf:oW wB P:=(PrB.mk Gm).uI hp ht hu hsv;have hkeep:∀k,k<w.heap.size→k≠P→sv.ownBlock≠some k→wC.heap[k]?=w.heap[k]?:=fun k hk hne hns=>by
  rw[hTC.block k (by omega) hne,hgB.block k (by simp;omega) (fun e=>hns e.symm),Below.heap_alloc _ _ _ (by omega)];exact hTA.block k hk hne
 have hFC:∀v l,Facts w v l→Facts wC v l:=fun v l hf=>by
  have h1:=rU hnt hTA hf;have h2:=hFB v l (h1.later ((Later.refl _).alloc _));exact rU Rf hTC h2
 have hBC:Below P w wC:=by
  refine⟨?_,?_,?_,by have:=hTC.size;omega,fun k hk=>hkeep k (by omega) (by omega) (fun e=>by have:=(hlo k e).1;omega)⟩
  ·rw[hTC.os,hgB.os];exact hTA.os
  ·rw[hTC.tape,hgB.tape];exact hTA.tape
  ·rw[hTC.output,hgB.output];exact hTA.output
 have q5:wA.cell? ⟨P,5,none⟩=some sv:=by rw[cell_of_row _ _ _ _ _ _ hRA];rfl
 have z2:w.frozen? ⟨P,2,none⟩=false:=dO hP.row;have q5b:wB.cell? ⟨P,5,none⟩=some sv:=by rw[cell_of_row _ _ _ _ _ _ Gm];rfl
 have z5:wB.frozen? ⟨P,5,none⟩=false:=dO Gm;obtain⟨ua,un,uc,rfl⟩:=hu;obtain⟨sa,sn,sc,rfl⟩:=hsv;obtain⟨va,vn,vc,rfl⟩:mo v':=by obtain⟨g,cap,cur,e,_⟩:=hRB;exact⟨_,_,_,e⟩
 have HRn:=hide hrun;have HWA:=hide hwA;have HWC:=hide hwC;have HFin:Hid (PrB wC P pv tv (.slice ua un uc) c d (.slice va vn vc) mb∧rT lo wC (.slice va vn vc) (xs++[.slice ua un uc])∧(∀v l,Facts w v l→Facts wC v l)∧(∀k,k<w.heap.size→k≠P→(Value.slice sa sn sc).ownBlock≠some k→wC.heap[k]?=w.heap[k]?)∧Below P w wC):=⟨⟨hRC⟩,Rc,hFC,hkeep,hBC⟩;clear hP hS hnt hp ht ha hl p0 p1 p3 p4 p5 p6 hwA hTA hRA hSA hrun hRB hgB hFB Ra hlo Gm hwC hTC hRC Rc Rf hkeep hFC hBC
 go_enter Tryz.func102,Tryz.ntmps102
 go_wp2_with (first|(rw[←HWA.out])|(rw[←HWC.out])|(at_builtin;refine wpList_append_run rfl (.tmp 13) (.tmp 15) 113 rfl _ _ _ _ rfl rfl HRn.out ?_))
 first|go_end0|refine bodyPost_ret (results_none rfl _ _ _) rfl ?_
 exact⟨rfl,_,HFin.out⟩
end Go.Proofs.YtafmbokfkbccaaaGreatDoor
namespace Go.Proofs.YtafmbokfkbccaaaGreatDoor
open Go.RowKit Go.Sort
structure Kp (P lo:Nat) (w w':World):Prop where
 os:w'.os=w.os
 tape:w'.tape=w.tape
 output:w'.output=w.output
 size:w.heap.size≤w'.heap.size
 block:∀k,k<lo→k≠P→w'.heap[k]?=w.heap[k]?
theorem Kp.refl (P lo:Nat) (w:World):Kp P lo w w:=⟨rfl,rfl,rfl,Nat.le_refl _,fun _ _ _=>rfl⟩
theorem Kp.trans {P lo:Nat} {a b c:World} (h:Kp P lo a b) (k:Kp P lo b c):Kp P lo a c:=
 ⟨k.os.trans h.os,k.tape.trans h.tape,k.output.trans h.output,Nat.le_trans h.size k.size,fun i hi ho=>(k.block i hi ho).trans (h.block i hi ho)⟩
theorem Kp.of_below {P lo n:Nat} {a b:World} (h:Below n a b) (hn:lo≤n):Kp P lo a b:=⟨h.os,h.tape,h.output,h.size,fun k hk _=>h.block k (by omega)⟩
theorem Kp.below {P lo n:Nat} {a b:World} (h:Kp P lo a b) (hn:n≤P) (hl:P<lo):Below n a b:=⟨h.os,h.tape,h.output,h.size,fun k hk=>h.block k (by omega) (by omega)⟩
theorem Kp.less {P lo lo':Nat} {a b:World} (h:Kp P lo a b) (hl:lo'≤lo):Kp P lo' a b:=⟨h.os,h.tape,h.output,h.size,fun k hk hne=>h.block k (by omega) hne⟩
structure PrS (w:World) (P lo:Nat) (pv tv:Value) (c d:Int) (mb:Nat) (all:List aj) (PS:List (List aj)):Prop where
 has:∃av sv xs,PrB w P pv tv av c d sv mb∧sP lo w sv xs∧Facts w av all∧xs.length=PS.length∧∀(i:Nat) u l,xs[i]?=some u→PS[i]?=some l→Facts w u l
theorem PrS.below {w w':World} {P lo:Nat} {pv tv:Value} {c d:Int} {mb:Nat} {all:List aj} {PS:List (List aj)} (h:PrS w P lo pv tv c d mb all PS) (k:Below w.heap.size w w'):PrS w' P lo pv tv c d mb all PS:=by
 obtain⟨av,sv,xs,h1,h2,h3,h4,h5⟩:=h.has;refine⟨av,sv,xs,h1.below k,?_,h3.below k,h4,fun i u l hu hl=>(h5 i u l hu hl).below k⟩;rcases h2 with e|h2
 ·exact Or.inl e
 ·exact Or.inr (h2.block fun i hi _=>k.block i hi)
theorem PrS.fewer {w:World} {P lo lo':Nat} {pv tv:Value} {c d:Int} {mb:Nat} {all:List aj} {PS:List (List aj)} (h:PrS w P lo pv tv c d mb all PS) (hl:lo'≤lo):PrS w P lo' pv tv c d mb all PS:=by
 obtain⟨av,sv,xs,h1,h2,h3⟩:=h.has;refine⟨av,sv,xs,h1,?_,h3⟩;rcases h2 with e|⟨g,cap,cur,e,hg,r⟩
 ·exact Or.inl e
 ·exact Or.inr ⟨g,cap,cur,e,by omega,r⟩
theorem Ny (P lo:Nat) (pv tv u:Value) (c d:Int) (mb:Nat) (all L:List aj) (PS:List (List aj)) (w:World) (hS:PrS w P lo pv tv c d mb all PS) (Oq:P<lo) (hlw:lo≤w.heap.size) (hp:mo pv) (ht:mo tv) (hu:Facts w u L) (hl:PS.length+1≤1000000):
  Calls Tryz.prog 102 #[.pointer (some ⟨P,0,none⟩),u] w fun e w'=>e=.returned (.tuple #[])∧PrS w' P lo pv tv c d mb L (PS++[L])∧Kp P lo w w':=by
 obtain⟨av,sv,xs,h1,h2,h3,h4,h5⟩:=hS.has;have hua:mo u:=by obtain⟨a,c,e⟩:=aD hu;exact⟨a,_,c,e⟩
 have haa:mo av:=by obtain⟨a,c,e⟩:=aD h3;exact⟨a,_,c,e⟩
 refine(PW P lo pv tv av u sv c d mb xs w h1 h2 Oq hlw hp ht haa hua (by omega)).mono fun e w' ⟨he,sv',k1,k2,k3,k4,k5⟩=>⟨he,⟨u,sv',xs++[u],k1,Or.inr k2,k3 u L hu,by simp[h4],fun i z l hz hl=> ?_⟩,⟨k5.os,k5.tape,k5.output,k5.size,fun k hk hne=>k4 k (by omega) hne (fun e=>by have:=(h2.lo k e).1;omega)⟩⟩
 by_cases hi:i<xs.length
 ·rw[List.getElem?_append_left hi] at hz;rw[List.getElem?_append_left (by omega)] at hl;exact k3 z l (h5 i z l hz hl)
 ·rw[List.getElem?_append_right (by omega)] at hz;rw[List.getElem?_append_right (by omega)] at hl;have hi':i=xs.length:=by
   have:=(List.getElem?_eq_some_iff.1 hz).1;simp at this;omega
  subst hi';rw[h4] at hl;simp at hz hl;subst hz hl;exact k3 u L hu
set_option maxRecDepth 100000 in
set_option maxHeartbeats 8000000 in
theorem Nz (p:List aA) (hp:cZ p) (σ:aA→Nat) (n:Int) (P lo:Nat) (pv tv sv:Value) (c d:Int) (mb:Nat) (L:List aj) (PS:List (List aj)) (w:World) (hS:PrS w P lo pv tv c d mb L PS) (Oq:P<lo) (hlw:lo≤w.heap.size) (hpv:eD.sl (fun k=>k<P) w pv p) (hsv:r9.sl (fun k=>k<lo∧k≠P) w sv (p.map σ)) (ht:mo tv) (hG:GoodS p L) (hPS:PS.length≤500000):
  Calls Tryz.prog 103 #[.pointer (some ⟨P,0,none⟩),sv,.int .i64 n] w fun e w'=>e=.returned (.int .i64 (aP p (p.map σ) n 201 L).1)∧((aP p (p.map σ) n 201 L).1=0→PrS w' P lo pv tv c d mb (aX L (aP p (p.map σ) n 201 L).2) (PS++(aP p (p.map σ) n 201 L).2))∧Kp P lo w w':=by
 generalize hss:p.map σ=ss at*;have HSS:=hide hss;obtain⟨pa,pc,hpe⟩:=Kind.slice hpv;obtain⟨sa,sc,hse⟩:=Kind.slice hsv;have HPv:Hid (∀w',Kp P lo w w'→eD.sl bJ w' pv p):=fun w' h=>Kind.dN (Kind.aT hpv h.size fun k _ hB=>h.block k (by omega) (by omega));have HSv:Hid (∀w',Kp P lo w w'→r9.sl bJ w' sv ss):=fun w' h=>Kind.dN (Kind.aT hsv h.size fun k _ hB=>h.block k hB.1 hB.2);have HS:=hide hS;have HG:=hide hG;have HRP:=hide hp;obtain⟨O,hO⟩:∃O,O=aP p ss n 201 L:=⟨_,rfl⟩;rw[←hO];have HO:=hide hO;subst hpe;subst hse;clear hss hS hG hp hpv hsv hO;have LY:=HG.out.few
 go_enter Tryz.func103,Tryz.ntmps103
 go_wp2
 go_loopg [7] 201 (fun g _ wr=>∃(k:Nat) (M:List aj) (Q:List (List aj)),k=g∧200<M.length+k∧Q.length+k=201∧Hid (PrS wr P lo (.slice pa p.length pc) tv c d mb M (PS++Q))∧Hid (GoodS p M)∧Hid (M=aX L Q)∧Hid (O.1=(aP p ss n k M).1∧((aP p ss n k M).1=0→O.2=Q++(aP p ss n k M).2))∧Hid (Kp P lo w wr))
 case atStart=>exact⟨201,L,[],rfl,by omega,rfl,(by rw[List.append_nil];exact HS.out:PrS _ _ _ _ _ _ _ _ _ _),HG,(rfl:_=_),⟨by rw[HO.out],fun _=>by rw[HO.out];rfl⟩,Kp.refl _ _ _⟩
 case round=>
  clear HS HG LY;obtain⟨k,M,Q,rfl,TF,hQ,HS,HG,HM,HO,HK⟩:=hrel;have hMf:=HG.out.few;obtain⟨k,rfl⟩:∃m,k=m+1:=⟨k-1,by omega⟩;obtain⟨av,pv',xs,hB,hR,hF,hl,hx⟩:=HS.out.has;obtain⟨aa,ac,hav⟩:=aD hF;subst hav;obtain⟨p0,p1,p2,p3,p4,p5,p6,hPl⟩:=hB.cells;have TG:=HK.out.size;have HCe:Hid (∀w',Below wr.heap.size wr w'→w'.cell? ⟨P,0,none⟩=some (.slice pa p.length pc)∧w'.cell? ⟨P,2,none⟩=some (.slice aa M.length ac)):=fun w' h=>by
   have:=(hB.below h).cells;exact⟨this.1,this.2.2.1⟩
  have HOn:Hid (∀w',Below wr.heap.size wr w'→Calls Tryz.prog 125 #[.slice pa p.length pc,.slice sa ss.length sc,.int .i64 n,.slice aa M.length ac] w' fun e w''=>∃v' er,e=.returned (.tuple #[v',.int .i64 er])∧nD w'' v' er (bV p ss n M)∧Hid (Below wr.heap.size wr w'')):=fun w' h=>by
   have hkk:=HK.out.trans (Kp.of_below h (by omega));have:=M7 p ss n M (.slice pa p.length pc) (.slice sa ss.length sc) (.slice aa M.length ac) w' (HPv.out w' hkk) (HSv.out w' hkk) (hF.below h) HRP.out.few hMf (uw HRP.out HG.out) (q9 HRP.out HG.out) (fun f hf=>j5 (HG.out.right f hf));exact this.mono fun e w'' ⟨v',er,h1,h2,h3⟩=>⟨v',er,h1,h2,ak h h3 h.size⟩
  have HB2:=hide hB;clear hB hR hF hl hx p0 p1 p3 p4 p5 p6;obtain⟨OE,OL,hON⟩:∃a b,bV p ss n M=(a,b):=⟨_,_,rfl⟩;rw[hON] at HOn;have HON:=hide hON;clear hON;go_wp2;refine wp_region_held_drew (S:=fun w'=>Below wr.heap.size wr w') (by kernel_rfl) (Below.refl _ _).drew (fun hHeld=> ?_);refine au (i:=0) (d:=some 17) (v:= ?_) rfl rfl hHeld ?_ ?_;rotate_left;focus intro w hSw;(try dsimp only at hSw);go_simp;try with_reducible rfl
  simp only[bP,bQ,aze,asu];refine au (i:=1) (d:=some 18) (v:= ?_) rfl rfl hHeld ?_ ?_;rotate_left;focus intro w hSw;(try dsimp only at hSw);go_simp;try with_reducible rfl
  simp only[bP,bQ,aze,asu];refine au (i:=2) (d:=some 19) (v:= ?_) rfl rfl hHeld ?_ ?_;rotate_left;focus intro w hSw;(try dsimp only at hSw);go_simp;try with_reducible rfl
  simp only[bP,bQ,aze,asu];refine au (i:=3) (d:=some 20) (v:= ?_) rfl rfl hHeld ?_ ?_;rotate_left;focus intro w hSw;(try dsimp only at hSw);go_simp;try with_reducible rfl
  simp only[bP,bQ,aze,asu];refine au (i:=4) (d:=some 21) (v:= ?_) rfl rfl hHeld ?_ ?_;rotate_left;focus intro w hSw;(try dsimp only at hSw);obtain⟨q0,q2⟩:=HCe.out _ hSw;go_simp;try with_reducible rfl
  simp only[bP,bQ,aze,asu];refine au (i:=5) (d:=some 22) (v:= ?_) rfl rfl hHeld ?_ ?_;rotate_left;focus intro w hSw;(try dsimp only at hSw);go_simp;try with_reducible rfl
  simp only[bP,bQ,aze,asu];refine au (i:=6) (d:=some 23) (v:= ?_) rfl rfl hHeld ?_ ?_;rotate_left;focus intro w hSw;(try dsimp only at hSw);go_simp;try with_reducible rfl
  simp only[bP,bQ,aze,asu];refine au (i:=7) (d:=some 24) (v:= ?_) rfl rfl hHeld ?_ ?_;rotate_left;focus intro w hSw;(try dsimp only at hSw);go_simp;try with_reducible rfl
  simp only[bP,bQ,aze,asu];refine au (i:=8) (d:=some 25) (v:= ?_) rfl rfl hHeld ?_ ?_;rotate_left;focus intro w hSw;(try dsimp only at hSw);go_simp;try with_reducible rfl
  simp only[bP,bQ,aze,asu];refine au (i:=9) (d:=some 26) (v:= ?_) rfl rfl hHeld ?_ ?_;rotate_left;focus intro w hSw;(try dsimp only at hSw);go_simp;try with_reducible rfl
  simp only[bP,bQ,aze,asu];refine au (i:=10) (d:=some 27) (v:= ?_) rfl rfl hHeld ?_ ?_;rotate_left;focus intro w hSw;(try dsimp only at hSw);go_simp;try with_reducible rfl
  simp only[bP,bQ,aze,asu];refine au (i:=11) (d:=some 28) (v:= ?_) rfl rfl hHeld ?_ ?_;rotate_left;focus intro w hSw;(try dsimp only at hSw);obtain⟨q0,q2⟩:=HCe.out _ hSw;go_simp;try with_reducible rfl
  simp only[bP,bQ,aze,asu];refine wpAnyH_ready (rs:=[12]) (by kernel_rfl) (by simp) ?_;refine AllReadyH.cons rfl (fun K hK=> ?_) AllReadyH.nil;go_simp;refine(HOn.out _ hHeld).mono ?_;rintro e w2 ⟨v2,er2,rfl,⟨he2,hT0,hT1⟩,hB2⟩;dsimp only at he2 hT0 hT1;subst he2;have hv2:mo v2:=by
   by_cases h0:er2=0
   ·obtain⟨a,c,e⟩:=aD (hT1 h0);exact⟨a,_,c,e⟩
   ·exact⟨_,_,_,hT0 h0⟩
  obtain⟨a2,n2,c2,rfl⟩:=hv2;refine hK.out _ _ hB2.out (fun hHeld=> ?_);clear hK K;refine au (i:=13) (d:=some 16) (v:= ?_) rfl rfl hHeld ?_ ?_;rotate_left;focus intro w hSw;(try dsimp only at hSw);go_simp;try with_reducible rfl
  simp only[bP,bQ,aze,asu];refine au (i:=14) (d:=some 30) (v:= ?_) rfl rfl hHeld ?_ ?_;rotate_left;focus intro w hSw;(try dsimp only at hSw);go_simp;try with_reducible rfl
  simp only[bP,bQ,aze,asu];refine au (i:=15) (d:=some 31) (v:= ?_) rfl rfl hHeld ?_ ?_;rotate_left;focus intro w hSw;(try dsimp only at hSw);go_simp;try with_reducible rfl
  simp only[bP,bQ,aze,asu];refine au (i:=16) (d:=some 8) (v:= ?_) rfl rfl hHeld ?_ ?_;rotate_left;focus intro w hSw;(try dsimp only at hSw);go_simp;try with_reducible rfl
  simp only[bP,bQ,aze,asu];refine au (i:=17) (d:=some 9) (v:= ?_) rfl rfl hHeld ?_ ?_;rotate_left;focus intro w hSw;(try dsimp only at hSw);go_simp;try with_reducible rfl
  simp only[bP,bQ,aze,asu];refine wpAnyH_done (by kernel_rfl) ?_ _;clear hHeld;have HK2:=hide (HK.out.trans (Kp.of_below hB2.out (by omega)));have hst:aP p ss n (k+1) M=if er2≠0 then(er2,[]) else if OL.length=M.length then(0,[OL]) else((aP p ss n k OL).1,OL::(aP p ss n k OL).2):=by
   conv=>lhs;unfold aP
   rw[HON.out]
  by_cases h0:er2=0
  ·subst h0;rw[if_neg (by simp)] at hst;have hF2:=hT1 rfl;have hG2:GoodS p OL∧∀f∈M,f∈OL:=by
    have:=HON.out;rw[←HSS.out] at this;exact jN HRP.out σ HG.out this
   have I8:n2=OL.length:=by
    obtain⟨a,c,e⟩:=aD hF2;simp only[Value.slice.injEq] at e;exact e.2.1
   subst I8;have Rh:=HS.out.below hB2.out;have hsz2:=hB2.out.size;have HKe:=hide (Ny P lo _ tv (.slice a2 OL.length c2) c d mb M OL (PS++Q) w2 Rh Oq (by omega) ⟨_,_,_,rfl⟩ ht hF2 (by simp;omega));have hle:=sw HG.out.up hG2.2;have HG2:=hide hG2.1;clear hT0 hT1 hF2 hG2 Rh HOn HCe hB2
   go_wp2_with fail
   refine HKe.out.mono ?_;rintro e w3 ⟨rfl,hS3,hK3⟩;have HK3:=hide (HK2.out.trans hK3)
   by_cases hlen:OL.length=M.length
   ·rw[if_pos hlen] at hst;have HR:Hid (O.1=0∧(O.1=0→PrS w3 P lo (.slice pa p.length pc) tv c d mb (aX L O.2) (PS++O.2))):=by
     have h1:=HO.out;rw[hst] at h1;have h2:=h1.2 rfl;refine⟨h1.1,fun _=> ?_⟩;rw[h2,fQ,←HM.out,←List.append_assoc];exact hS3
    have hli:((OL.length:Int)==(M.length:Int))=true:=by simp[hlen]
    have TH:(OL.length:Int)=(M.length:Int):=by omega
    clear hS3 hK3 hst HKe HO hlen;go_wp2;go_ret;exact⟨by rw[HR.out.1];rfl,HR.out.2,HK3.out⟩
   ·rw[if_neg hlen] at hst;have HO2:Hid (O.1=(aP p ss n k OL).1∧((aP p ss n k OL).1=0→O.2=(Q++[OL])++(aP p ss n k OL).2)):=by
     have h1:=HO.out;rw[hst] at h1;exact⟨h1.1,fun h=>by rw[h1.2 h];simp⟩
    have HS3:Hid (PrS w3 P lo (.slice pa p.length pc) tv c d mb OL (PS++(Q++[OL]))):=by show PrS _ _ _ _ _ _ _ _ _ _;rw[←List.append_assoc];exact hS3
    have HM3:Hid (OL=aX L (Q++[OL])):=by show _=_;rw[fQ];rfl
    have hlt:M.length<OL.length:=by omega
    have hq3:(Q++[OL]).length+k=201:=by simp;omega
    have hli:¬(OL.length:Int)=(M.length:Int):=by omega
    have TH:((OL.length:Int)==(M.length:Int))=false:=by simp;omega
    clear hS3 hK3 hst HKe HO hlen;go_wp2
    go_roundg k
    case measure=>omega
    case rel=>exact⟨k,OL,Q++[OL],rfl,by omega,hq3,HS3,HG2,HM3,HO2,HK3⟩
  ·have hq:(er2 != 0)=true:=by simpa using h0
   rw[if_pos h0] at hst;have HR:Hid (O.1=er2):=by show _=_;rw[HO.out.1,hst]
   have HN:Hid (O.1=0→PrS w2 P lo (.slice pa p.length pc) tv c d mb (aX L O.2) (PS++O.2)):=fun h=>absurd (HR.out.symm.trans h) h0;clear hst hT0 hT1 HOn HCe hB2 h0 HO;go_wp2;go_ret;exact⟨by rw[HR.out];rfl,HN.out,HK2.out⟩
end Go.Proofs.YtafmbokfkbccaaaGreatDoor
