import Derived.Test.YtafmbokfkbccaaaGreatDoorJB22
import Derived.Defers
import Derived.Recover
namespace Go.Proofs.YtafmbokfkbccaaaGreatDoor
open Go.RowKit Go.Sort
theorem Rd.alloc {w:World} {p:Nat} {s:ByteArray} {l:Bs} (h:Rd w p s l) (o:Obj):Rd (w.alloc o) p s l:=h.below ((Later.refl w).alloc o).below
theorem Tn.row {p b:Nat} {w w':World} {arr:Array Value} {t:TypeId} (h:Tn p w w') (hr:w.heap[b]?=some (.cells arr t (0,0))) (hb:b≠p):w'.heap[b]?=some (.cells arr t (0,0)):=by
 rw[h.block b (Array.getElem?_eq_some_iff.1 hr).1 hb];exact hr
theorem L6 {w:World} {b:Nat} {x y z:Value} {t:TypeId} (h:w.heap[b]?=some (.cells #[x,y,z] t (0,0))):
  w.cell? ⟨b,0,none⟩=some x∧w.cell? ⟨b,1,none⟩=some y∧w.cell? ⟨b,2,none⟩=some z∧w.frozen? ⟨b,0,none⟩=false∧w.frozen? ⟨b,1,none⟩=false∧w.frozen? ⟨b,2,none⟩=false:=
 ⟨by rw[cell_of_row _ _ _ _ _ _ h];rfl,by rw[cell_of_row _ _ _ _ _ _ h];rfl,by rw[cell_of_row _ _ _ _ _ _ h];rfl,dF h,dF h,dF h⟩
set_option maxHeartbeats 2000000 in
theorem Nn (p:Nat) (s:ByteArray) (l:Bs) (w:World) (h:Rd w p s l):
  Calls Tryz.prog 234 #[.pointer (some ⟨p,0,none⟩)] w fun e w'=>nH p s w (bN.val w.heap.size) (atom l) e w':=by
 have hlt:=h.lt;have hne:=h.ne;have hA:Tn p w (w.alloc (.cells #[.bool false,.string {data:=#[]},.slice none 0 0] 85)):=(Tn.refl p w).alloc _;have HW:=hide (Nk 104 isNamed yR yT p s l _ (h.alloc (.cells #[.bool false,.string {data:=#[]},.slice none 0 0] 85)));clear h
 go_enter Tryz.func234,Tryz.ntmps234
 go_wp2_with fail
 refine HW.out.mono ?_;intro e w1 hE;obtain⟨hT,⟨a,r,v,hx,rfl,rfl,hR⟩|⟨n,r,hx,rfl,hR⟩⟩:=hE.split
 ·have hr1:=hT.row (heap_alloc_new w _) (b:=w.heap.size) (by omega);have hlt1:w.heap.size<w1.heap.size:=by have:=hT.size;simp at this;omega
  have hT1:=hA.trans hT;have HTk:=hide (yQ p s r [40] _ (hR.alloc (.cells #[.bool false,.string (bs a),.slice none 0 0] 85)));have HT1:=hide (hT1.alloc (.cells #[.bool false,.string (bs a),.slice none 0 0] 85));have HX:Hid (atom l=if(took [40] r).1 then(iF term 4 (took [40] r).2).next fun ts r=>dJ [41] ⟨false,a,ts⟩ r else .ok ⟨false,a,[]⟩ (took [40] r).2):=by
   show _=_;unfold atom;rw[hx];rfl
  have hr1':=(Tn.refl p w1).alloc (.cells #[.bool false,.string (bs a),.slice none 0 0] 85) |>.row hr1 (by omega);have hr2:=heap_alloc_new w1 (.cells #[.bool false,.string (bs a),.slice none 0 0] 85);clear hx hT hR hE hA hT1 hr1 HW
  go_wp2_with fail
  refine HTk.out.mono ?_;rintro e w2 ⟨rfl,hR2,hT2⟩
  replace hr1:=hT2.row hr1' (by omega)
  replace hr2:=hT2.row hr2 (by omega)
  have hlt2:w1.heap.size<w2.heap.size:=by have:=hT2.size;simp at this;omega
  have HT2:=hide (HT1.out.trans hT2);have HR2:=hide hR2;cases ht:(took [40] r).1
  ·have HX2:Hid (atom l=.ok ⟨false,a,[]⟩ (took [40] r).2):=by show _=_;rw[HX.out,if_neg (by rw[ht];simp)]
   obtain⟨z0,z1,z2,f0,f1,f2⟩:=L6 hr1;obtain⟨y0,y1,y2,_,_,_⟩:=L6 hr2;clear ht hR2 hT2 HTk HT1 HX hr1' hr1 hr2;go_wp2;refine bodyPost_ret (v:=.agg #[.bool false,.string (bs a),.slice none 0 0]) (by simp[results,Tryz.results234,go_sem,z0,z1,z2]) rfl ?_;exact lT HX2.out (((HT2.out.setCell (Or.inr (Nat.le_refl _)) _).setCell (Or.inr (Nat.le_refl _)) _).setCell (Or.inr (Nat.le_refl _)) _) ⟨_,rfl,_,rfl,dn.gF _ _ _ _⟩
    (((HR2.out.other (by omega) (by omega) _).other (by omega) (by omega) _).other (by omega) (by omega) _)
  ·have HX2:Hid (atom l=(iF term 4 (took [40] r).2).next fun ts r=>dJ [41] ⟨false,a,ts⟩ r):=by show _=_;rw[HX.out,if_pos ht]
   have HL:=hide (IU p s _ w2 hR2);clear ht hR2 hT2 HTk HT1 HX hr1'
   go_wp2_with fail
   refine HL.out.mono ?_;intro e w3 hE3;obtain⟨hT3,⟨ts,r3,v3,hx3,rfl,hV3,hR3⟩|⟨n,r3,hx3,rfl,hR3⟩⟩:=hE3.split
   ·obtain⟨a3,c3,rfl⟩:=Kind.slice hV3
    replace hr1:=hT3.row hr1 (by omega)
    replace hr2:=hT3.row hr2 (by omega)
    have MU:=hT3.size;obtain⟨y0,y1,y2,g0,g1,g2⟩:=L6 hr2;obtain⟨z0,z1,z2,f0,f1,f2⟩:=L6 hr1;have hTs:Tn (w1.heap.size) w3 (w3.setCell ⟨w1.heap.size,2,none⟩ (.slice a3 ts.length c3)):=(Tn.refl _ w3).moved _ _;have HTk:=hide (yQ p s r3 [41] _ (hR3.turned hTs (by omega) (by omega)));have HV3:Hid (dn.sl (From w2.heap.size) (w3.setCell ⟨w1.heap.size,2,none⟩ (.slice a3 ts.length c3)) (.slice a3 ts.length c3) ts):=Kind.gI hV3 hTs (by omega);have HT3:=hide ((HT2.out.trans hT3).setCell (x:=⟨w1.heap.size,2,none⟩) (Or.inr (by show w.heap.size≤w1.heap.size;omega)) (.slice a3 ts.length c3));have HX3:Hid (atom l=dJ [41] ⟨false,a,ts⟩ r3):=by show _=_;rw[HX2.out,hx3];rfl
    have hq1:=hTs.row hr1 (by omega);have q0:(w3.setCell ⟨w1.heap.size,2,none⟩ (.slice a3 ts.length c3)).cell? ⟨w1.heap.size,0,none⟩=some (.bool false):=by rw[World.cell?_setCell_other _ _ _ _ (by simp)];exact y0
    have q1:(w3.setCell ⟨w1.heap.size,2,none⟩ (.slice a3 ts.length c3)).cell? ⟨w1.heap.size,1,none⟩=some (.string (bs a)):=by rw[World.cell?_setCell_other _ _ _ _ (by simp)];exact y1
    have q2:(w3.setCell ⟨w1.heap.size,2,none⟩ (.slice a3 ts.length c3)).cell? ⟨w1.heap.size,2,none⟩=some (.slice a3 ts.length c3):=World.cell?_setCell_same _ _ _ y2;have Np:w3.heap.size=(w3.setCell ⟨w1.heap.size,2,none⟩ (.slice a3 ts.length c3)).heap.size:=(size_setCell _ _ _).symm;clear hx3 hE3 hV3 hR3 HL HX2 hr1 hr2 z0 z1 z2 f0 f1 f2 HR2 hTs y0 y1
    go_wp2_with fail
    refine HTk.out.mono ?_;rintro e w4 ⟨rfl,hR4,hT4⟩;have QS:=hT4.row hq1 (by omega);obtain⟨z0,z1,z2,f0,f1,f2⟩:=L6 QS;rw[←hT4.cell (x:=⟨w1.heap.size,0,none⟩) (by show w1.heap.size<_;omega) (by show w1.heap.size≠p;omega)] at q0;rw[←hT4.cell (x:=⟨w1.heap.size,1,none⟩) (by show w1.heap.size<_;omega) (by show w1.heap.size≠p;omega)] at q1;rw[←hT4.cell (x:=⟨w1.heap.size,2,none⟩) (by show w1.heap.size<_;omega) (by show w1.heap.size≠p;omega)] at q2;have HV4:=hide (Kind.gI HV3.out hT4 (by omega));have HT4:=hide (HT3.out.trans hT4);have HR4:=hide hR4;have HM:=hide (F4 p s _ ((took [41] r3).1) w4 hR4);have hsz5:=hT4.size;clear hR4 hT4 HTk HV3 HT3 hq1 QS y2;cases ht:(took [41] r3).1
    ·have HX4:Hid (atom l=.bad 2 (took [41] r3).2):=by show _=_;rw[HX3.out];unfold dJ;rw[if_neg (by rw[ht];simp)]
     rw[ht] at HM;clear ht HX3
     go_wp2_with fail
     refine HM.out.mono ?_;rintro e w5 ⟨rfl,rfl⟩;exact⟨rfl,eZ HX4.out HT4.out HR4.out⟩
    ·have HX4:Hid (atom l=.ok ⟨false,a,ts⟩ (took [41] r3).2):=by show _=_;rw[HX3.out];unfold dJ;rw[if_pos ht]
     rw[ht] at HM;clear ht HX3
     go_wp2_with fail
     refine HM.out.mono ?_;rintro e w5 ⟨rfl,rfl⟩;go_wp2;refine bodyPost_ret (v:=.agg #[.bool false,.string (bs a),.slice a3 ts.length c3]) (by simp[results,Tryz.results234,go_sem,z0,z1,z2]) rfl ?_;have hTb:Tn w.heap.size w5 (((w5.setCell ⟨w.heap.size,0,none⟩ (.bool false)).setCell ⟨w.heap.size,1,none⟩ (.string (bs a))).setCell ⟨w.heap.size,2,none⟩ (.slice a3 ts.length c3)):=
      (((Tn.refl _ w5).moved _ _).moved _ _).moved _ _
     exact lT HX4.out (((HT4.out.setCell (Or.inr (Nat.le_refl _)) _).setCell (Or.inr (Nat.le_refl _)) _).setCell (Or.inr (Nat.le_refl _)) _) ⟨_,rfl,_,rfl,Kind.aW (Kind.gI HV4.out hTb (by omega)) (fun k _ hB=>by have:w2.heap.size≤k:=hB;show w.heap.size≤k;omega)⟩
      (HR4.out.turned hTb (by omega) (by omega))
   ·have hx':atom l=.bad n r3:=by rw[HX2.out,hx3];rfl
    exact⟨rfl,eZ hx' (HT2.out.trans hT3) hR3⟩
 ·have hx':atom l=.bad n r:=by unfold atom;rw[hx];rfl
  exact⟨rfl,eZ hx' (hA.trans hT) hR⟩
set_option maxHeartbeats 2000000 in
theorem yU (p:Nat) (s:ByteArray) (l:Bs) (w:World) (h:Rd w p s l):
  Calls Tryz.prog 214 #[.pointer (some ⟨p,0,none⟩)] w fun e w'=>nH p s w (bN.val w.heap.size) (dz l) e w':=by
 have hlt:=h.lt;have hne:=h.ne;have HA:=hide ((Tn.refl p w).alloc (.cells #[.bool false,.string {data:=#[]},.slice none 0 0] 85));have hr1:=heap_alloc_new w (.cells #[.bool false,.string {data:=#[]},.slice none 0 0] 85);have HW:=hide (yQ p s l [33] _ (h.alloc (.cells #[.bool false,.string {data:=#[]},.slice none 0 0] 85)));clear h
 go_enter Tryz.func214,Tryz.ntmps214
 go_wp2_with fail
 refine HW.out.mono ?_;rintro e w1 ⟨rfl,hR,hT⟩
 replace hr1:=hT.row hr1 (by omega)
 have hlt1:w.heap.size<w1.heap.size:=by have:=hT.size;simp at this;omega
 have HT1:=hide (HA.out.trans hT);have HC:=hide (Nn p s _ w1 hR);clear hR hT HA HW
 go_wp2_with fail
 refine HC.out.mono ?_;intro e w2 hE;obtain⟨hT2,⟨a,r,v,hx,rfl,⟨c,rfl,v2,rfl,hV⟩,hR2⟩|⟨n,r,hx,rfl,hR2⟩⟩:=hE.split
 ·obtain⟨a3,c3,rfl⟩:=Kind.slice hV
  replace hr1:=hT2.row hr1 (by omega)
  have hlt2:=hT2.size;have HX:Hid (dz l=.ok {a with no:=(took [33] l).1} r):=by show _=_;unfold dz;rw[hx];rfl
  have HT2:=hide ((HT1.out.trans hT2).alloc (.cells #[.bool (took [33] l).1,.string (bs a.name),.slice a3 a.terms.length c3] 85));have HR2:=hide (hR2.alloc (.cells #[.bool (took [33] l).1,.string (bs a.name),.slice a3 a.terms.length c3] 85));have hTa:Tn (w2.heap.size+1) w2 (w2.alloc (.cells #[.bool (took [33] l).1,.string (bs a.name),.slice a3 a.terms.length c3] 85)):=(Tn.refl _ w2).alloc _;have HV:Hid (dn.sl (From w1.heap.size) (w2.alloc (.cells #[.bool (took [33] l).1,.string (bs a.name),.slice a3 a.terms.length c3] 85)) (.slice a3 a.terms.length c3) a.terms):=Kind.aT hV hTa.size (fun k hk _=>hTa.block k hk (by omega));obtain⟨z0,z1,z2,f0,f1,f2⟩:=L6 (hTa.row hr1 (by omega));clear hx hE hV hR2 HT1 HC hr1 hTa;generalize(took [33] l).1=b at*;go_wp2;refine bodyPost_ret (v:=.agg #[.bool b,.string (bs a.name),.slice a3 a.terms.length c3]) (by simp[results,Tryz.results214,go_sem,z0,z1,z2]) rfl ?_;generalize w2.alloc (.cells #[.bool b,.string (bs a.name),.slice a3 a.terms.length c3] 85)=w3 at*;have hTb:Tn w.heap.size w3 (((w3.setCell ⟨w.heap.size,0,none⟩ (.bool b)).setCell ⟨w.heap.size,1,none⟩ (.string (bs a.name))).setCell ⟨w.heap.size,2,none⟩ (.slice a3 a.terms.length c3)):=
   (((Tn.refl _ w3).moved _ _).moved _ _).moved _ _
  exact lT HX.out (((HT2.out.setCell (Or.inr (Nat.le_refl _)) _).setCell (Or.inr (Nat.le_refl _)) _).setCell (Or.inr (Nat.le_refl _)) _) ⟨_,rfl,_,rfl,Kind.aW (Kind.gI HV.out hTb (by omega)) (fun k _ hB=>by have:w1.heap.size≤k:=hB;show w.heap.size≤k;omega)⟩
   (HR2.out.turned hTb (by omega) (by omega))
 ·have hx':dz l=.bad n r:=by unfold dz;rw[hx];rfl
  exact⟨rfl,eZ hx' (HT1.out.trans hT2) hR2⟩
end Go.Proofs.YtafmbokfkbccaaaGreatDoor
namespace Go.Proofs.YtafmbokfkbccaaaGreatDoor
open Go.RowKit Go.Sort
theorem IV:∃i,Tryz.prog.info? 85=some i∧i.zero=some (.agg #[.bool false,.string ByteArray.empty,.slice none 0 0])∧i.size=3∧i.bytes=48:=⟨Tryz.t85,by kernel_rfl,by kernel_rfl,by kernel_rfl,by kernel_rfl⟩
theorem Dt {lo:Nat} {w:World} {v:Value} {l:List aF} (h:bN.own 85 lo w v l) {c:List Value} {x:aF} (hc:bN.is (fun k=>lo≤k∧v.ownBlock≠some k) w c x) (hl:l.length+1≤1099511627776) (hlo:lo≤w.heap.size):
  ∃v' w',(Builtin.append_ #[73,73] 73 #[v,.slice (some ⟨w.heap.size,0,none⟩) 1 1]).run Tryz.prog (w.alloc (.cells c.toArray 85))=.ok v' w'∧bN.own 85 lo w' v' (l++[x])∧(w.alloc (.cells c.toArray 85)).grownBy w' v.ownBlock:=by
 obtain⟨i,i1,i2,i3,i4⟩:=IV;exact Kind.jP h Tryz.underlying73 i1 i2 i3 i4 rfl (by decide) (by decide) hc hl hlo
set_option maxHeartbeats 2000000 in
theorem IW (p:Nat) (s:ByteArray) (l:Bs) (w:World) (h:Rd w p s l):
  Calls Tryz.prog 213 #[.pointer (some ⟨p,0,none⟩),.int .i64 5,.func (.func 214) #[.pointer (some ⟨p,0,none⟩)] #[]] w fun e w'=>nH p s w (bN.sl (From w.heap.size)) (iF dz 5 l) e w':=by
 have hlt:=h.lt;have HC:=hide (yU p s l w h);clear h
 go_enter Tryz.func213,Tryz.ntmps213
 go_wp2_with fail
 refine HC.out.mono ?_;intro e w1 hE;obtain⟨hT,⟨a,r,v,hx,rfl,⟨c,rfl,hK⟩,hR⟩|⟨n,r,hx,rfl,hR⟩⟩:=hE.split
 ·have HO:=hide (Kind.zS (ty:=85) hK hT.size);have HG:Hid (iE dz 4 [a] r=iF dz 5 l):=by show _=_;unfold iF;rw[hx];rfl
  have HT:=hide (hT.alloc (.cells c.toArray 85));have HR:=hide (hR.below ((((Later.refl w1).alloc (.cells c.toArray 85))).below));have hlo:=hT.size;obtain⟨tv,rfl,hts⟩:=hK;obtain⟨ta,tc,rfl⟩:=Kind.slice hts;clear hts;clear hx hT hR hE HC;go_wp2
  go_loopg [7] 4 (fun k o wr=>∃out l',k+out.length=5∧bN.own 85 w.heap.size wr o out∧iE dz k out l'=iF dz 5 l∧Rd wr p s l'∧Tn p w wr)
  case atStart=>exact⟨[a],r,rfl,HO.out,HG.out,HR.out,HT.out⟩
  case round=>
   obtain⟨out,l',hk,hO,hG,hR,hT⟩:=hrel;clear HO HG HR HT;obtain⟨ao,co,rfl⟩:=Kind.dI hO;have HO:=hide hO;have HG:=hide hG;have HC:=hide (yQ p s l' [44] wr hR);have HT:=hide hT;clear hO hG hR hT
   go_wp2_with fail
   refine HC.out.mono ?_;rintro e w2 ⟨rfl,hR2,hT2⟩;have HR2:=hide hR2;have HT2:=hide (HT.out.trans hT2);have HO2:=hide (Kind.dB HO.out hT2 hlt);cases ht:(took [44] l').1
   ·have HX:Hid (iF dz 5 l=.ok out (took [44] l').2):=by
     show _=_;rw[←HG.out];unfold iE;rw[if_neg (by rw[ht];simp)]
    clear ht hR2 hT2 HO HC HG HT;go_wp2;go_ret;exact lT HX.out HT2.out (Kind.gW HO2.out (by omega)) HR2.out
   ·cases gk with
    |zero=>
     have HX:Hid (iF dz 5 l=.bad 5 (took [44] l').2):=by
      show _=_;rw[←HG.out];unfold iE;rw[if_pos ht]
     have hlen:((out.length:Int)==5)=true:=by rw[beq_iff_eq];omega
     have HF:=hide (F3 p s _ 5 w2 hR2);clear ht hR2 hT2 HO HC HG HT
     go_wp2_with fail
     refine HF.out.mono ?_;rintro e w3 ⟨rfl,rfl⟩;exact⟨rfl,eZ HX.out HT2.out HR2.out⟩
    |succ n=>
     have HX:Hid (iF dz 5 l=(dz (took [44] l').2).next fun a r=>iE dz n (out++[a]) r):=by
      show _=_;rw[←HG.out,uG ht]
     have hlen:((out.length:Int)==5)=false:=by rw[beq_eq_false_iff_ne];omega
     have HP:=hide (yU p s _ w2 hR2);clear ht hR2 hT2 HO HC HG HT
     go_wp2_with fail
     refine HP.out.mono ?_;intro e w3 hE;obtain⟨hT3,⟨a',r',v,hx,rfl,⟨c',rfl,hK3⟩,hR3⟩|⟨n',r',hx,rfl,hR3⟩⟩:=hE.split
     ·have hO3:=Kind.dB HO2.out hT3 hlt;have hsz2:=HT2.out.size;obtain⟨v',w4,hrun,hO4,hg4⟩:=Dt hO3 (bN.mono hK3 fun k hk hB=>⟨by have:w2.heap.size≤k:=hB;omega,fun e=>by
       have h1:=(Kind.fu HO2.out e).2;have h2:w2.heap.size≤k:=hB;omega⟩) (by omega) (by have:=hT3.size;omega)
      have HR4:=hide hrun;have HO4:=hide hO4;have HG4:Hid (iE dz n (out++[a']) r'=iF dz 5 l):=by show _=_;rw[HX.out,hx];rfl
      have hblk:∀k,k<w3.heap.size→k<w.heap.size→w4.heap[k]?=w3.heap[k]?:=fun k hk hk'=>
       (hg4.block k (by simp;omega) (fun e=>by have:=(Kind.fu HO2.out e.symm).1;omega)).trans (Below.heap_alloc w3 _ k hk)
      have hs4:w3.heap.size≤w4.heap.size:=by have:=hg4.size;simp at this;omega
      have HT4:Hid (Tn p w w4):=⟨hg4.os.trans (hT3.os.trans HT2.out.os),hg4.tape.trans (hT3.tape.trans HT2.out.tape),hg4.output.trans (hT3.output.trans HT2.out.output),by have:=hT3.size;omega,
       fun k hk ho=>(hblk k (by have:=hT3.size;omega) hk).trans ((hT3.block k (by omega) ho).trans (HT2.out.block k hk ho))⟩
      have hRd:Rd w4 p s r':=⟨hR3.short,hR3.suf,by have:=hR3.lt;omega,hR3.ne,
       by rw[World.cell?_of_block (w:=w3) (a:=⟨p,0,none⟩) (hblk p hR3.lt hlt)];exact hR3.c0,by rw[World.cell?_of_block (w:=w3) (a:=⟨p,1,none⟩) (hblk p hR3.lt hlt)];exact hR3.c1,
       by rw[World.frozen?_of_block (w:=w3) (a:=⟨p,1,none⟩) (hblk p hR3.lt hlt)];exact hR3.fz,
       by obtain⟨m,e⟩:=hR3.g;exact⟨m,by rw[World.cell?_of_block (w:=w3) (a:=⟨1,0,none⟩) (hblk 1 (by have:=hR3.lt;have:=hR3.ne;omega) (by have:=hR3.ne;omega))];exact e⟩⟩
      have HRd:=hide hRd;obtain⟨tv3,rfl,Nq⟩:=hK3;obtain⟨ta3,tc3,rfl⟩:=Kind.slice Nq;clear Nq;clear hx hE hT3 hR3 hrun hO4 hg4 hO3 hRd hblk HR2
      go_wp2_with (at_builtin;refine wpList_append_run rfl (.tmp 21) (.tmp 24) 73 rfl _ _ _ _ rfl rfl HR4.out ?_)
      go_roundg n
      case measure=>exact Nat.lt_succ_self n
      case rel=>exact⟨out++[a'],r',by simp;omega,HO4.out,HG4.out,HRd.out,HT4.out⟩
     ·have hx':iF dz 5 l=.bad n' r':=by rw[HX.out,hx];rfl
      exact⟨rfl,eZ hx' (HT2.out.trans hT3) hR3⟩
 ·have hx':iF dz 5 l=.bad n r:=by unfold iF;rw[hx];rfl
  exact⟨rfl,eZ hx' hT hR⟩
end Go.Proofs.YtafmbokfkbccaaaGreatDoor
namespace Go.Proofs.YtafmbokfkbccaaaGreatDoor
open Go.RowKit Go.Sort
set_option maxHeartbeats 1000000 in
theorem bodyC (p:Nat) (s:ByteArray) (l:Bs) (w:World) (h:Rd w p s l):
  Calls Tryz.prog 153 #[.pointer (some ⟨p,0,none⟩)] w fun e w'=>nH p s w (bN.sl (From w.heap.size)) (body l) e w':=by
 have HC:=hide (IW p s l w h);have hmf:∀(fn:Fn) (first cap:Array Value) (w:World),(Instr.makeFunc fn first cap).run Tryz.prog w=.ok (.func fn first cap) w:=fun _ _ _ _=>rfl;clear h
 go_enter Tryz.func153,Tryz.ntmps153
 go_wp2_with fail
 refine HC.out.mono ?_;intro e w1 hE;obtain⟨hT,⟨a,r,v,hx,rfl,hV,hR⟩|⟨n,r,hx,rfl,hR⟩⟩:=hE.split
 ·obtain⟨a1,c1,rfl⟩:=Kind.slice hV;have HX:Hid (body l=.ok a r):=hx;have HT:=hide hT;have HV:=hide hV;have HR:=hide hR;clear hx hT hV hR hE;go_wp2;go_ret;exact lT HX.out HT.out HV.out HR.out
 ·exact⟨rfl,eZ hx hT hR⟩
theorem Oj {w:World} {b:Nat} {x y z u:Value} {t:TypeId} (h:w.heap[b]?=some (.cells #[x,y,z,u] t (0,0))):
  w.cell? ⟨b,0,none⟩=some x∧w.cell? ⟨b,1,none⟩=some y∧w.cell? ⟨b,2,none⟩=some z∧w.cell? ⟨b,3,none⟩=some u∧w.frozen? ⟨b,0,none⟩=false∧w.frozen? ⟨b,1,none⟩=false∧w.frozen? ⟨b,2,none⟩=false∧w.frozen? ⟨b,3,none⟩=false:=
 ⟨by rw[cell_of_row _ _ _ _ _ _ h];rfl,by rw[cell_of_row _ _ _ _ _ _ h];rfl,by rw[cell_of_row _ _ _ _ _ _ h];rfl,by rw[cell_of_row _ _ _ _ _ _ h];rfl,dF h,dF h,dF h,dF h⟩
abbrev But (lo q:Nat):Nat→Prop:=fun k=>lo≤k∧k≠q
theorem Kind.Du {α:Type} {K:Kind α} {p q lo:Nat} {w w':World} {v:Value} {l:List α} (h:K.sl (But lo q) w v l) (k:Tn p w w') (hp:p<lo∨p=q):K.sl (But lo q) w' v l:=
 Kind.aT h k.size fun i hi hB=>k.block i hi (by have:=hB.1;have:=hB.2;omega)
theorem Kind.F6 {α:Type} {K:Kind α} {q lo:Nat} {w:World} {v:Value} {l:List α} (h:K.sl (But lo q) w v l):K.sl (From lo) w v l:=Kind.aW h fun _ _ hB=>hB.1
theorem F7 {p lo b:Nat} {s:ByteArray} {l r:Bs} {w w4:World} {a:aF} {bd:List aF} {tv bv:Value} (hX:rule l=.ok ⟨a,bd⟩ r) (hno:a.no=false) (hT:Tn p w w4) (hR:Rd w4 p s r)
  (hV:dn.sl (From lo) w4 tv a.terms) (hB:bN.sl (From lo) w4 bv bd) (hlo:w.heap.size<lo) (hlt:p<w.heap.size) (hb:b=w.heap.size):
  nH p s w (eD.val w.heap.size) (rule l) (.returned (.agg #[.bool false,.string (bs a.name),tv,bv])) ((((w4.setCell ⟨b,0,none⟩ (.bool false)).setCell ⟨b,1,none⟩ (.string (bs a.name))).setCell ⟨b,2,none⟩ tv).setCell ⟨b,3,none⟩ bv):=by
 subst hb;have hTb:Tn w.heap.size w4 ((((w4.setCell ⟨w.heap.size,0,none⟩ (.bool false)).setCell ⟨w.heap.size,1,none⟩ (.string (bs a.name))).setCell ⟨w.heap.size,2,none⟩ tv).setCell ⟨w.heap.size,3,none⟩ bv):=
  ((((Tn.refl _ w4).moved _ _).moved _ _).moved _ _).moved _ _
 have mono:∀k,k<((((w4.setCell ⟨w.heap.size,0,none⟩ (.bool false)).setCell ⟨w.heap.size,1,none⟩ (.string (bs a.name))).setCell ⟨w.heap.size,2,none⟩ tv).setCell ⟨w.heap.size,3,none⟩ bv).heap.size→From lo k→From w.heap.size k:=
  fun k _ hB=>by have:lo≤k:=hB;show w.heap.size≤k;omega
 exact lT hX ((((hT.setCell (Or.inr (Nat.le_refl _)) _).setCell (Or.inr (Nat.le_refl _)) _).setCell (Or.inr (Nat.le_refl _)) _).setCell (Or.inr (Nat.le_refl _)) _)
  ⟨_,rfl,_,_,by rw[hno],Kind.aW (Kind.gI hV hTb hlo) mono,Kind.aW (Kind.gI hB hTb hlo) mono⟩ (hR.turned hTb (by omega) (by omega))
theorem La {l r:Bs} {a:aF} (h:atom l=.ok a r):a.no=false:=by
 obtain⟨w,r1,h1,h2⟩:=Res.uO h;split at h2
 ·obtain⟨ts,r2,h4,h5⟩:=Res.uO h2;rw[(zA h5).2.1]
 ·cases h2;rfl
set_option maxHeartbeats 2000000 in
theorem PD (p:Nat) (s:ByteArray) (l:Bs) (w:World) (h:Rd w p s l):
  Calls Tryz.prog 172 #[.pointer (some ⟨p,0,none⟩)] w fun e w'=>nH p s w (eD.val w.heap.size) (rule l) e w':=by
 have hlt:=h.lt;have hne:=h.ne;have HA:=hide ((Tn.refl p w).alloc (.cells #[.bool false,.string {data:=#[]},.slice none 0 0,.slice none 0 0] 87));have hr1:=heap_alloc_new w (.cells #[.bool false,.string {data:=#[]},.slice none 0 0,.slice none 0 0] 87);have HW:=hide (Nn p s l _ (h.alloc (.cells #[.bool false,.string {data:=#[]},.slice none 0 0,.slice none 0 0] 87)));clear h
 go_enter Tryz.func172,Tryz.ntmps172
 go_wp2_with fail
 refine HW.out.mono ?_;intro e w1 hE;obtain⟨hT,⟨a,r,v,hx,rfl,⟨c,rfl,v2,rfl,hV⟩,hR⟩|⟨n,r,hx,rfl,hR⟩⟩:=hE.split
 ·obtain⟨a1,c1,rfl⟩:=Kind.slice hV;have hno:=La hx
  replace hr1:=hT.row hr1 (by omega)
  have hlt1:w.heap.size<w1.heap.size:=by have:=hT.size;simp at this;omega
  have HT1:=hide ((HA.out.trans hT).alloc (.cells #[.bool false,.string (bs a.name),.slice a1 a.terms.length c1,.slice none 0 0] 87));have HTk:=hide (yQ p s r [58,45] _ (hR.alloc (.cells #[.bool false,.string (bs a.name),.slice a1 a.terms.length c1,.slice none 0 0] 87)));have HX:Hid (rule l=if(took [58,45] r).1 then(body (took [58,45] r).2).next fun b r=>dJ [46] ⟨a,b⟩ r else dJ [46] ⟨a,[]⟩ (took [58,45] r).2):=by
   show _=_;unfold rule;rw[hx];rfl
  have hTa:Tn p w1 (w1.alloc (.cells #[.bool false,.string (bs a.name),.slice a1 a.terms.length c1,.slice none 0 0] 87)):=(Tn.refl p w1).alloc _;have hr2:=heap_alloc_new w1 (.cells #[.bool false,.string (bs a.name),.slice a1 a.terms.length c1,.slice none 0 0] 87)
  replace hr1:=hTa.row hr1 (by omega)
  have hV1:dn.sl (But (w.heap.size+1) w1.heap.size) (w1.alloc (.cells #[.bool false,.string (bs a.name),.slice a1 a.terms.length c1,.slice none 0 0] 87)) (.slice a1 a.terms.length c1) a.terms:=
   Kind.Du (Kind.aW hV (fun k hk hB=>⟨by have:(w.alloc _).heap.size≤k:=hB;simp at this;exact this,by omega⟩)) hTa (by omega)
  have HV1:=hide hV1;have hs1:(w1.alloc (.cells #[.bool false,.string (bs a.name),.slice a1 a.terms.length c1,.slice none 0 0] 87)).heap.size=w1.heap.size+1:=by simp
  clear hx hT hR hE HA HW hV hTa hV1;rw[hno]
  go_wp2_with fail
  refine HTk.out.mono ?_;rintro e w2 ⟨rfl,hR2,hT2⟩
  replace hr1:=hT2.row hr1 (by omega)
  replace hr2:=hT2.row hr2 (by omega)
  have hlt2:w1.heap.size<w2.heap.size:=by have:=hT2.size;omega
  have HT2:=hide (HT1.out.trans hT2);have HV2:=hide (Kind.Du HV1.out hT2 (by omega));have HR2:=hide hR2;cases ht:(took [58,45] r).1
  ·have HX2:Hid (rule l=dJ [46] ⟨a,[]⟩ (took [58,45] r).2):=by show _=_;rw[HX.out,if_neg (by rw[ht];simp)]
   have QT:=hide (yQ p s _ [46] w2 hR2);clear ht hR2 hT2 HTk HT1 HX HV1
   go_wp2_with fail
   refine QT.out.mono ?_;rintro e w4 ⟨rfl,hR4,hT4⟩;obtain⟨z0,z1,z2,z3,f0,f1,f2,f3⟩:=Oj (hT4.row hr1 (by omega));obtain⟨y0,y1,y2,y3,_,_,_,_⟩:=Oj (hT4.row hr2 (by omega));have HV4:=hide (Kind.F6 (Kind.Du HV2.out hT4 (by omega)));have HT4:=hide (HT2.out.trans hT4);have HR4:=hide hR4;have HM:=hide (F4 p s _ ((took [46] (took [58,45] r).2).1) w4 hR4);clear hR4 hT4 QT HV2 HT2 hr1 hr2;cases ht:(took [46] (took [58,45] r).2).1
   ·have HX4:Hid (rule l=.bad 2 (took [46] (took [58,45] r).2).2):=by show _=_;rw[HX2.out];unfold dJ;rw[if_neg (by rw[ht];simp)]
    rw[ht] at HM;clear ht HX2
    go_wp2_with fail
    refine HM.out.mono ?_;rintro e w5 ⟨rfl,rfl⟩;exact⟨rfl,eZ HX4.out HT4.out HR4.out⟩
   ·have HX4:Hid (rule l=.ok ⟨a,[]⟩ (took [46] (took [58,45] r).2).2):=by show _=_;rw[HX2.out];unfold dJ;rw[if_pos ht]
    rw[ht] at HM;clear ht HX2
    go_wp2_with fail
    refine HM.out.mono ?_;rintro e w5 ⟨rfl,rfl⟩;go_wp2;refine bodyPost_ret (v:=.agg #[.bool false,.string (bs a.name),.slice a1 a.terms.length c1,.slice none 0 0]) (by simp[results,Tryz.results172,go_sem,z0,z1,z2,z3]) rfl ?_;exact F7 HX4.out hno HT4.out HR4.out HV4.out (bN.gF _ _ _ _) (by omega) hlt rfl
  ·have HX2:Hid (rule l=(body (took [58,45] r).2).next fun b r=>dJ [46] ⟨a,b⟩ r):=by show _=_;rw[HX.out,if_pos ht]
   have HL:=hide (bodyC p s _ w2 hR2);clear ht hR2 hT2 HTk HT1 HX HV1
   go_wp2_with fail
   refine HL.out.mono ?_;intro e w3 hE3;obtain⟨hT3,⟨bd,r3,v3,hx3,rfl,hV3,hR3⟩|⟨n,r3,hx3,rfl,hR3⟩⟩:=hE3.split
   ·obtain⟨a3,c3,rfl⟩:=Kind.slice hV3
    replace hr1:=hT3.row hr1 (by omega)
    replace hr2:=hT3.row hr2 (by omega)
    have MU:=hT3.size;obtain⟨y0,y1,y2,y3,g0,g1,g2,g3⟩:=Oj hr2;have hTs:Tn (w1.heap.size) w3 (w3.setCell ⟨w1.heap.size,3,none⟩ (.slice a3 bd.length c3)):=(Tn.refl _ w3).moved _ _;have HTk:=hide (yQ p s r3 [46] _ (hR3.turned hTs (by omega) (by omega)));have HV3:Hid (bN.sl (From w2.heap.size) (w3.setCell ⟨w1.heap.size,3,none⟩ (.slice a3 bd.length c3)) (.slice a3 bd.length c3) bd):=Kind.gI hV3 hTs (by omega);have HB3:Hid (dn.sl (But (w.heap.size+1) w1.heap.size) (w3.setCell ⟨w1.heap.size,3,none⟩ (.slice a3 bd.length c3)) (.slice a1 a.terms.length c1) a.terms):=Kind.Du (Kind.Du HV2.out hT3 (by omega)) hTs (by omega);have HT3:=hide ((HT2.out.trans hT3).setCell (x:=⟨w1.heap.size,3,none⟩) (Or.inr (by show w.heap.size≤w1.heap.size;omega)) (.slice a3 bd.length c3));have HX3:Hid (rule l=dJ [46] ⟨a,bd⟩ r3):=by show _=_;rw[HX2.out,hx3];rfl
    have hq1:=hTs.row hr1 (by omega);have q0:(w3.setCell ⟨w1.heap.size,3,none⟩ (.slice a3 bd.length c3)).cell? ⟨w1.heap.size,0,none⟩=some (.bool false):=by rw[World.cell?_setCell_other _ _ _ _ (by simp)];exact y0
    have q1:(w3.setCell ⟨w1.heap.size,3,none⟩ (.slice a3 bd.length c3)).cell? ⟨w1.heap.size,1,none⟩=some (.string (bs a.name)):=by rw[World.cell?_setCell_other _ _ _ _ (by simp)];exact y1
    have q2:(w3.setCell ⟨w1.heap.size,3,none⟩ (.slice a3 bd.length c3)).cell? ⟨w1.heap.size,2,none⟩=some (.slice a1 a.terms.length c1):=by rw[World.cell?_setCell_other _ _ _ _ (by simp)];exact y2
    have q3:(w3.setCell ⟨w1.heap.size,3,none⟩ (.slice a3 bd.length c3)).cell? ⟨w1.heap.size,3,none⟩=some (.slice a3 bd.length c3):=World.cell?_setCell_same _ _ _ y3;have Np:w3.heap.size=(w3.setCell ⟨w1.heap.size,3,none⟩ (.slice a3 bd.length c3)).heap.size:=(size_setCell _ _ _).symm;clear hx3 hE3 hV3 hR3 HL HX2 hr1 hr2 HR2 hTs y0 y1 y2 HV2 HT2 hT3
    go_wp2_with fail
    refine HTk.out.mono ?_;rintro e w4 ⟨rfl,hR4,hT4⟩;obtain⟨z0,z1,z2,z3,f0,f1,f2,f3⟩:=Oj (hT4.row hq1 (by omega));rw[←hT4.cell (x:=⟨w1.heap.size,0,none⟩) (by show w1.heap.size<_;omega) (by show w1.heap.size≠p;omega)] at q0;rw[←hT4.cell (x:=⟨w1.heap.size,1,none⟩) (by show w1.heap.size<_;omega) (by show w1.heap.size≠p;omega)] at q1;rw[←hT4.cell (x:=⟨w1.heap.size,2,none⟩) (by show w1.heap.size<_;omega) (by show w1.heap.size≠p;omega)] at q2;rw[←hT4.cell (x:=⟨w1.heap.size,3,none⟩) (by show w1.heap.size<_;omega) (by show w1.heap.size≠p;omega)] at q3;have HV4:=hide (Kind.aW (Kind.gI HV3.out hT4 (by omega)) (fun k _ hB=>by have:w2.heap.size≤k:=hB;show w.heap.size+1≤k;omega:∀k,k<w4.heap.size→From w2.heap.size k→From (w.heap.size+1) k));have HB4:=hide (Kind.F6 (Kind.Du HB3.out hT4 (by omega)));have HT4:=hide (HT3.out.trans hT4);have HR4:=hide hR4;have HM:=hide (F4 p s _ ((took [46] r3).1) w4 hR4);clear hR4 hT4 HTk HV3 HT3 hq1 HB3 y3;cases ht:(took [46] r3).1
    ·have HX4:Hid (rule l=.bad 2 (took [46] r3).2):=by show _=_;rw[HX3.out];unfold dJ;rw[if_neg (by rw[ht];simp)]
     rw[ht] at HM;clear ht HX3
     go_wp2_with fail
     refine HM.out.mono ?_;rintro e w5 ⟨rfl,rfl⟩;exact⟨rfl,eZ HX4.out HT4.out HR4.out⟩
    ·have HX4:Hid (rule l=.ok ⟨a,bd⟩ (took [46] r3).2):=by show _=_;rw[HX3.out];unfold dJ;rw[if_pos ht]
     rw[ht] at HM;clear ht HX3
     go_wp2_with fail
     refine HM.out.mono ?_;rintro e w5 ⟨rfl,rfl⟩;go_wp2;refine bodyPost_ret (v:=.agg #[.bool false,.string (bs a.name),.slice a1 a.terms.length c1,.slice a3 bd.length c3]) (by simp[results,Tryz.results172,go_sem,z0,z1,z2,z3]) rfl ?_;exact F7 HX4.out hno HT4.out HR4.out HB4.out HV4.out (by omega) hlt rfl
   ·have hx':rule l=.bad n r3:=by rw[HX2.out,hx3];rfl
    exact⟨rfl,eZ hx' (HT2.out.trans hT3) hR3⟩
 ·have hx':rule l=.bad n r:=by unfold rule;rw[hx];rfl
  exact⟨rfl,eZ hx' (HA.out.trans hT) hR⟩
theorem IX:∃i,Tryz.prog.info? 87=some i∧i.zero=some (.agg #[.bool false,.string ByteArray.empty,.slice none 0 0,.slice none 0 0])∧i.size=4∧i.bytes=72:=⟨Tryz.t87,by kernel_rfl,by kernel_rfl,by kernel_rfl,by kernel_rfl⟩
theorem Dv {lo:Nat} {w:World} {v:Value} {l:List aA} (h:eD.own 87 lo w v l) {c:List Value} {x:aA} (hc:eD.is (fun k=>lo≤k∧v.ownBlock≠some k) w c x) (hl:l.length+1≤1099511627776) (hlo:lo≤w.heap.size):
  ∃v' w',(Builtin.append_ #[22,22] 22 #[v,.slice (some ⟨w.heap.size,0,none⟩) 1 1]).run Tryz.prog (w.alloc (.cells c.toArray 87))=.ok v' w'∧eD.own 87 lo w' v' (l++[x])∧(w.alloc (.cells c.toArray 87)).grownBy w' v.ownBlock:=by
 obtain⟨i,i1,i2,i3,i4⟩:=IX;exact Kind.jP h Tryz.underlying22 i1 i2 i3 i4 rfl (by decide) (by decide) hc hl hlo
theorem Lb {p:Nat} {s:ByteArray} {r:Bs} {w w2 w3 w4:World} {o:Obj} {row:Option Nat} (hg4:(w3.alloc o).grownBy w4 row) (hrow:∀k,row=some k→w.heap.size≤k) (hT2:Tn p w w2) (hT3:Tn p w2 w3) (hR3:Rd w3 p s r) (hlt:p<w.heap.size):Rd w4 p s r∧Tn p w w4:=by
 have hs2:=hT2.size;have hs3:=hT3.size;have hblk:∀k,k<w3.heap.size→k<w.heap.size→w4.heap[k]?=w3.heap[k]?:=fun k hk hk'=>
  (hg4.block k (by simp;omega) (fun e=>by have:=hrow k e.symm;omega)).trans (Below.heap_alloc w3 _ k hk)
 have hs4:w3.heap.size≤w4.heap.size:=by have:=hg4.size;simp at this;omega
 exact⟨⟨hR3.short,hR3.suf,by have:=hR3.lt;omega,hR3.ne,
   by rw[World.cell?_of_block (w:=w3) (a:=⟨p,0,none⟩) (hblk p hR3.lt hlt)];exact hR3.c0,by rw[World.cell?_of_block (w:=w3) (a:=⟨p,1,none⟩) (hblk p hR3.lt hlt)];exact hR3.c1,
   by rw[World.frozen?_of_block (w:=w3) (a:=⟨p,1,none⟩) (hblk p hR3.lt hlt)];exact hR3.fz,
   by obtain⟨m,e⟩:=hR3.g;exact⟨m,by rw[World.cell?_of_block (w:=w3) (a:=⟨1,0,none⟩) (hblk 1 (by have:=hR3.lt;have:=hR3.ne;omega) (by have:=hR3.ne;omega))];exact e⟩⟩,
  ⟨hg4.os.trans (hT3.os.trans hT2.os),hg4.tape.trans (hT3.tape.trans hT2.tape),hg4.output.trans (hT3.output.trans hT2.output),by omega,
   fun k hk ho=>(hblk k (by omega) hk).trans ((hT3.block k (by omega) ho).trans (hT2.block k hk ho))⟩⟩
theorem Ar {n:Nat} {out:List aA} {l:Bs} (h:skip l≠[]):fH (n+1) out l=(rule (skip l)).next fun a r=>fH n (out++[a]) r:=by
 conv=>lhs;unfold fH
 exact if_neg h
set_option maxHeartbeats 2000000 in
theorem Nr (p:Nat) (s:ByteArray) (l:Bs) (w:World) (h:Rd w p s l):
  Calls Tryz.prog 96 #[.pointer (some ⟨p,0,none⟩)] w fun e w'=>nH p s w (eD.sl (From w.heap.size)) (fH 16 [] l) e w':=by
 have hlt:=h.lt;have H:=hide h;clear h
 go_enter Tryz.func96,Tryz.ntmps96
 go_wp2
 go_loopg [3] 16 (fun k o wr=>∃out l',k+out.length=16∧eD.own 87 w.heap.size wr o out∧fH k out l'=fH 16 [] l∧Rd wr p s l'∧Tn p w wr)
 case atStart=>exact⟨[],l,rfl,eD.jg _ _ _,rfl,H.out,Tn.refl _ _⟩
 case round=>
  obtain⟨out,l',hk,hO,hG,hR,hT⟩:=hrel;obtain⟨ao,co,rfl⟩:=Kind.dI hO;have HO:=hide hO;have HG:=hide hG;have HC:=hide (Ng p s l' wr hR);have HT:=hide hT;clear hO hG hR hT H
  go_wp2_with fail
  refine HC.out.mono ?_;rintro e w2 ⟨rfl,hR2,hT2⟩;have HR2:=hide hR2;have HT2:=hide (HT.out.trans hT2);have HO2:=hide (Kind.dB HO.out hT2 hlt)
  by_cases ht:skip l'=[]
  ·have HX:Hid (fH 16 [] l=.ok out []):=by show _=_;rw[←HG.out];exact zB _ _ ht
   rw[decide_eq_true ht];have HR3:Hid (Rd w2 p s []):=by show Rd _ _ _ _;rw[←ht];exact hR2
   clear ht hR2 hT2 HO HC HG HT HR2;go_wp2;go_ret;exact lT HX.out HT2.out (Kind.gW HO2.out (by omega)) HR3.out
  ·rw[decide_eq_false ht];cases gk with
   |zero=>
    have HX:Hid (fH 16 [] l=.bad 5 (skip l')):=by
     show _=_;rw[←HG.out];unfold fH;rw[if_neg ht]
    have hlen:((out.length:Int)==16)=true:=by rw[beq_iff_eq];omega
    have HF:=hide (F3 p s _ 5 w2 hR2);clear ht hR2 hT2 HO HC HG HT
    go_wp2_with fail
    refine HF.out.mono ?_;rintro e w3 ⟨rfl,rfl⟩;exact⟨rfl,eZ HX.out HT2.out HR2.out⟩
   |succ n=>
    have HX:Hid (fH 16 [] l=(rule (skip l')).next fun a r=>fH n (out++[a]) r):=by
     show _=_;rw[←HG.out,Ar ht]
    have hlen:((out.length:Int)==16)=false:=by rw[beq_eq_false_iff_ne];omega
    have HP:=hide (PD p s _ w2 hR2);clear ht hR2 hT2 HO HC HG HT
    go_wp2_with fail
    refine HP.out.mono ?_;intro e w3 hE;obtain⟨hT3,⟨a',r',v,hx,rfl,⟨c',rfl,hK3⟩,hR3⟩|⟨n',r',hx,rfl,hR3⟩⟩:=hE.split
    ·have hO3:=Kind.dB HO2.out hT3 hlt;have hsz2:=HT2.out.size;obtain⟨v',w4,hrun,hO4,hg4⟩:=Dv hO3 (eD.mono hK3 fun k hk hB=>⟨by have:w2.heap.size≤k:=hB;omega,fun e=>by
      have h1:=(Kind.fu HO2.out e).2;have h2:w2.heap.size≤k:=hB;omega⟩) (by omega) (by have:=hT3.size;omega)
     have HR4:=hide hrun;have HO4:=hide hO4;have HG4:Hid (fH n (out++[a']) r'=fH 16 [] l):=by show _=_;rw[HX.out,hx];rfl
     obtain⟨hRd,hT4⟩:=Lb hg4 (fun k e=>(Kind.fu HO2.out e).1) HT2.out hT3 hR3 hlt;have HRd:=hide hRd;have HT4:=hide hT4;obtain⟨tv3,bv3,rfl,Nq,QU⟩:=hK3;obtain⟨ta3,tc3,rfl⟩:=Kind.slice Nq;obtain⟨ba3,bc3,rfl⟩:=Kind.slice QU;clear Nq QU hx hE hT3 hR3 hrun hO4 hg4 hO3 hRd hT4 HR2
     go_wp2_with (at_builtin;refine wpList_append_run rfl (.tmp 14) (.tmp 17) 22 rfl _ _ _ _ rfl rfl HR4.out ?_)
     go_roundg n
     case measure=>exact Nat.lt_succ_self n
     case rel=>exact⟨out++[a'],r',by simp;omega,HO4.out,HG4.out,HRd.out,HT4.out⟩
    ·have hx':fH 16 [] l=.bad n' r':=by rw[HX.out,hx];rfl
     exact⟨rfl,eZ hx' (HT2.out.trans hT3) hR3⟩
end Go.Proofs.YtafmbokfkbccaaaGreatDoor
namespace Go.Proofs.YtafmbokfkbccaaaGreatDoor
open Go.RowKit Go.Sort
theorem yV (v:Value) (w:World):(Instr.typeAssert (.iface 220 v) 20 220 false).run Tryz.prog w=.ok v w:=by
 kernel_rfl
theorem Au (x y:Int) (w:World):(Instr.field 220 (.agg #[.int .i64 x,.int .i64 y]) 0).run Tryz.prog w=.ok (.agg #[.int .i64 x,.int .i64 y]) w:=by
 kernel_rfl
set_option maxRecDepth 100000 in
set_option maxHeartbeats 1000000 in
theorem F8 (b:Nat) (x y:Int) (u0 u1:Value) (w:World) (c0:w.cell? ⟨b,0,none⟩=some u0) (c1:w.cell? ⟨b,1,none⟩=some u1) (f0:w.frozen? ⟨b,0,none⟩=false) (f1:w.frozen? ⟨b,1,none⟩=false):
  CallsD Tryz.prog 170 #[.pointer (some ⟨b,0,none⟩)] (.panicking [{v:=.iface 220 (.agg #[.int .i64 x,.int .i64 y]),recovered:=false}]) w fun e u' w'=>
   e=.returned (.tuple #[])∧u'=.panicking [{v:=.iface 220 (.agg #[.int .i64 x,.int .i64 y]),recovered:=true}]∧w'=(w.setCell ⟨b,0,none⟩ (.int .i64 x)).setCell ⟨b,1,none⟩ (.int .i64 y):=by
 have hta:∀(v:Value) (w:World),(Instr.typeAssert (.iface 220 v) 20 220 false).run Tryz.prog w=.ok v w:=yV;have hfl:=Au;refine callsD_of_wpS Tryz.func170 rfl fun c₀ cs hu=> ?_
 apply wpS_seq
 apply wpS_region
 simp[wpOpsS,go_sem,recoverD,hu,Tryz.ntmps170,Exit.thenS];refine wpS_of_wp ?_;go_wp2;simp[bodyPostS,results,Tryz.results170]
set_option maxRecDepth 100000 in
set_option maxHeartbeats 1000000 in
theorem IY (b:Nat) (w:World):
  CallsD Tryz.prog 170 #[.pointer (some ⟨b,0,none⟩)] .returning w fun e u' w'=>e=.returned (.tuple #[])∧u'=.returning∧w'=w:=by
 refine callsD_of_wpS Tryz.func170 rfl fun c₀ cs hu=> ?_
 apply wpS_seq
 apply wpS_region
 simp[wpOpsS,go_sem,recoverD,hu,Tryz.ntmps170,Exit.thenS];refine wpS_of_wp ?_;go_wp2;cases c₀
 simp_all [bodyPostS,results,Tryz.results170]
def dZ (s:Bs):List aA×Int×Nat:=
 if 3000<s.length then([],4,0) else match fH 16 [] s with
  | .ok out _=>(out,0,0)
  | .bad n r=>([],n,s.length-r.length)
set_option maxRecDepth 100000 in
set_option maxHeartbeats 2000000 in
theorem IZ (s:ByteArray) (w:World) (m:Int) (hm:w.cell? ⟨1,0,none⟩=some (.int .i64 m)):
  Calls Tryz.prog 95 #[.string s,.func (.func 96) #[] #[]] w fun e w'=>∃v,e=.returned (.tuple #[v,.agg #[.int .i64 (dZ (raw s)).2.1,.int .i64 (dZ (raw s)).2.2]])∧eD.sl (From w.heap.size) w' v (dZ (raw s)).1∧Below w.heap.size w w':=by
 have hmf:∀(fn:Fn) (first cap:Array Value) (w:World),(Instr.makeFunc fn first cap).run Tryz.prog w=.ok (.func fn first cap) w:=fun _ _ _ _=>rfl
 by_cases hs:3000<s.size
 ·have HX:Hid (dZ (raw s)=([],4,0)):=by show _=_;unfold dZ;rw[if_pos (by rw[aY];exact hs)]
  have hs':(3000:Int)<s.size:=by omega
  go_enter_defers Tryz.func95,Tryz.ntmps95
  go_wp2;simp only[bodyPostD];refine⟨.tuple #[.slice none 0 0,.agg #[.int .i64 4,.int .i64 0]],by simp[results,Tryz.results95,go_sem],?_⟩;exact⟨_,by rw[HX.out];rfl,by rw[HX.out];exact eD.gF _ _ _ _,((Later.refl w).alloc _).below⟩
 ·have h0:1<w.heap.size:=World.block_lt_of_cell? w _ hm;have hRd:Rd ((w.alloc (.cells #[.int .i64 0,.int .i64 0] 75)).alloc (.cells #[.string s,.int .i64 0] 224)) (w.heap.size+1) s (raw s):=by
   have hr:((w.alloc (.cells #[.int .i64 0,.int .i64 0] 75)).alloc (.cells #[.string s,.int .i64 0] 224)).heap[w.heap.size+1]?=some (.cells #[.string s,.int .i64 0] 224 (0,0)):=by
    have:=heap_alloc_new (w.alloc (.cells #[.int .i64 0,.int .i64 0] 75)) (.cells #[.string s,.int .i64 0] 224);simpa using this
   refine⟨by omega,List.suffix_refl _,by simp,by omega,by rw[cell_of_row _ _ _ _ _ _ hr];rfl,?_,dF hr,m,?_⟩
   ·rw[cell_of_row _ _ _ _ _ _ hr,pos,aY,Nat.sub_self];rfl
   ·rw[(((Later.refl w).alloc (.cells #[.int .i64 0,.int .i64 0] 75)).alloc (.cells #[.string s,.int .i64 0] 224)).cell (p:=⟨1,0,none⟩) h0];exact hm
  have HC:=hide (Nr _ s _ _ hRd);have hs':¬(3000:Int)<s.size:=by omega
  go_enter_defers Tryz.func95,Tryz.ntmps95
  go_wp2_with fail
  refine HC.out.mono ?_;intro e w1 hE;have hBB:Below w.heap.size w ((w.alloc (.cells #[.int .i64 0,.int .i64 0] 75)).alloc (.cells #[.string s,.int .i64 0] 224)):=(((Later.refl w).alloc _).alloc _).below;have hfr:((w.alloc (.cells #[.int .i64 0,.int .i64 0] 75)).alloc (.cells #[.string s,.int .i64 0] 224)).heap[w.heap.size]?=some (.cells #[.int .i64 0,.int .i64 0] 75 (0,0)):=by
   rw[Below.heap_alloc _ _ _ (by simp)];exact heap_alloc_new w _
  have hsz:((w.alloc (.cells #[.int .i64 0,.int .i64 0] 75)).alloc (.cells #[.string s,.int .i64 0] 224)).heap.size=w.heap.size+2:=by simp
  rw[hsz] at hE;generalize(w.alloc (.cells #[.int .i64 0,.int .i64 0] 75)).alloc (.cells #[.string s,.int .i64 0] 224)=wb at*;obtain⟨hT,⟨a,r,v,hx,rfl,hV,hR⟩|⟨n,r,hx,rfl,hR⟩⟩:=hE.split
  all_goals
   have hrow:=hT.row hfr (b:=w.heap.size) (by omega);have z0:w1.cell? ⟨w.heap.size,0,none⟩=some (.int .i64 0):=by rw[cell_of_row _ _ _ _ _ _ hrow];rfl
   have z1:w1.cell? ⟨w.heap.size,1,none⟩=some (.int .i64 0):=by rw[cell_of_row _ _ _ _ _ _ hrow];rfl
   have f0:=dF (j:=0) hrow;have f1:=dF (j:=1) hrow;have hB1:Below w.heap.size w w1:=⟨hT.os.trans hBB.os,hT.tape.trans hBB.tape,hT.output.trans hBB.output,by have:=hT.size;omega,fun k hk=>(hT.block k (by omega) (by omega)).trans (hBB.block k hk)⟩
  ·have HX:Hid (dZ (raw s)=(a,0,0)):=by show _=_;unfold dZ;rw[if_neg (by rw[aY];exact hs),hx]
   have HV:=hide hV;have HB:=hide hB1;obtain⟨av,cv,rfl⟩:=Kind.slice hV;clear hE hT hx hR hBB hfr hRd HC hB1 hV hrow;go_wp2;refine leaves_cons (f:=170) (args:=#[.pointer (some ⟨w.heap.size,0,none⟩)]) (by simp) (by simp[go_sem]) ?_;refine(IY _ _).mono ?_;rintro e u' w'' ⟨rfl,rfl,rfl⟩;refine⟨.tuple #[.slice av a.length cv,.agg #[.int .i64 0,.int .i64 0]],by simp[results,Tryz.results95,go_sem,z0,z1],_,by rw[HX.out];rfl,?_,?_⟩
   ·rw[HX.out];exact Kind.aW (Kind.gI HV.out (((Tn.refl w.heap.size w1).moved _ _).moved _ _) (by omega)) (fun k _ hB=>by have:w.heap.size+2≤k:=hB;show w.heap.size≤k;omega)
   ·exact(HB.out.setCell (Nat.le_refl _) _).setCell (Nat.le_refl _) _
  ·have HX:Hid (dZ (raw s)=([],n,pos s r)):=by show _=_;unfold dZ;rw[if_neg (by rw[aY];exact hs),hx,aY];rfl
   refine leaves_cons (f:=170) (args:=#[.pointer (some ⟨w.heap.size,0,none⟩)]) (by simp) (by simp[go_sem]) ?_;refine(F8 _ _ _ _ _ _ z0 z1 f0 f1).mono ?_;rintro e u' w'' ⟨rfl,rfl,rfl⟩;refine⟨.tuple #[.slice none 0 0,.agg #[.int .i64 n,.int .i64 (pos s r)]],by simp[results,Tryz.results95,go_sem,z0,z1],_,by rw[HX.out],?_,?_⟩
   ·rw[HX.out];exact eD.gF _ _ _ _
   ·exact(hB1.setCell (Nat.le_refl _) _).setCell (Nat.le_refl _) _
set_option maxHeartbeats 1000000 in
theorem Ns (s:ByteArray) (w:World) (m:Int) (hm:w.cell? ⟨1,0,none⟩=some (.int .i64 m)):
  Calls Tryz.prog 46 #[.string s] w fun e w'=>∃v,e=.returned (.tuple #[v,.agg #[.int .i64 (dZ (raw s)).2.1,.int .i64 (dZ (raw s)).2.2]])∧eD.sl (From w.heap.size) w' v (dZ (raw s)).1∧Below w.heap.size w w':=by
 have hb0:=World.block_lt_of_cell? w _ hm;have hA:=((Later.refl w).alloc (.cells #[.int .i64 0,.int .i64 0] 75));have HC:=hide (IZ s (w.alloc (.cells #[.int .i64 0,.int .i64 0] 75)) m (by rw[hA.cell (p:=⟨1,0,none⟩) hb0];exact hm))
 go_enter Tryz.func46,Tryz.ntmps46
 go_wp2_with fail
 refine HC.out.mono ?_;rintro e w1 ⟨v,rfl,hV,hB⟩;have hrow:w1.heap[w.heap.size]?=some (.cells #[.int .i64 0,.int .i64 0] 75 (0,0)):=by
  rw[hB.block _ (by simp)];exact heap_alloc_new w _
 have z0:w1.cell? ⟨w.heap.size,0,none⟩=some (.int .i64 0):=by rw[cell_of_row _ _ _ _ _ _ hrow];rfl
 have z1:w1.cell? ⟨w.heap.size,1,none⟩=some (.int .i64 0):=by rw[cell_of_row _ _ _ _ _ _ hrow];rfl
 have f0:=dF (j:=0) hrow;have f1:=dF (j:=1) hrow;have HB:Hid (Below w.heap.size w w1):=⟨hB.os.trans hA.below.os,hB.tape.trans hA.below.tape,hB.output.trans hA.below.output,by have:=hB.size;simp at this;omega,fun k hk=>(hB.block k (by simp;omega)).trans (hA.below.block k hk)⟩;have HV:=hide hV;obtain⟨av,cv,rfl⟩:=Kind.slice hV;clear hV hB hA HC hrow hm;generalize hy:dZ (raw s)=y at HV⊢;have HY:=hide hy;clear hy;obtain⟨out,n,k⟩:=y;dsimp only at HV⊢;go_wp2;refine bodyPost_ret (v:=.tuple #[.slice av out.length cv,.agg #[.int .i64 n,.int .i64 k]]) (by simp[results,Tryz.results46,go_sem,z0,z1]) rfl ?_;refine⟨.slice av out.length cv,by rw[HY.out],?_,(HB.out.setCell (Nat.le_refl _) _).setCell (Nat.le_refl _) _⟩;rw[HY.out];exact Kind.aW (Kind.gI HV.out (((Tn.refl w.heap.size w1).moved _ _).moved _ _) (by simp)) (fun k _ hB=>by have:(w.alloc _).heap.size≤k:=hB;simp at this;show w.heap.size≤k;omega)
end Go.Proofs.YtafmbokfkbccaaaGreatDoor
