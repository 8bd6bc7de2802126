import Derived.Test.YtafmbokfkbccaaaGreatDoorJN3
import Derived.Test.YtafmbokfkbccaaaGreatDoorJN24
import Derived.Test.YtafmbokfkbccaaaGreatDoorJN10
namespace Go.Proofs.YtafmbokfkbccaaaGreatDoor
open Go.RowKit Go.Sort
set_option maxHeartbeats 1000000 in
theorem Hw:Fits 320 rW:=fun l w hl=>by
 have HN:=hide (AR l);have HV:Hid (∀w,Calls Tryz.prog 321 #[.string (bs l)] w fun e w'=>e=.returned (.bool (isVar l))∧w'=w):=fun w=>by
  have:=tL (bs l) w;rw[iD] at this;exact this
 have F:Hid (rW l=(isNamed l||isVar l)):=(rfl:_=_);cases h1:isNamed l <;> cases h2:isVar l
 all_goals
  rw[h1] at HN F;rw[h2] at HV F
  go_enter Tryz.func320,Tryz.ntmps320
  go_wp2_with (first
   |(go_at_call 104;refine(HN.out _ hl).mono ?_;rintro e w' ⟨rfl,rfl⟩)
   |(go_at_call 321;refine(HV.out _).mono ?_;rintro e w' ⟨rfl,rfl⟩))
  go_ret;exact⟨cK (by rw[F.out];rfl),rfl⟩
theorem AU (args:Array Value) (w:World):(callFunc 320 args).run Tryz.prog w=.ok (.enter 320 args) w:=enters_of Tryz.func320 (by kernel_rfl) rfl args w
theorem AV (args:Array Value) (w:World):(callFunc 104 args).run Tryz.prog w=.ok (.enter 104 args) w:=enters_of Tryz.func104 (by kernel_rfl) rfl args w
theorem xu {α:Type} {part:Bs→Res α} {n:Nat} {out:List α} {l:Bs} (ht:(took [44] l).1=true):jf part (n+1) out l=(part (took [44] l).2).next fun a r=>jf part n (out++[a]) r:=by
 conv=>lhs;unfold jf
 exact if_pos ht
theorem oq.split {α:Type} {p:Nat} {s:ByteArray} {w w':World} {V:World→Value→α→Prop} {x:Res α} {e:Ending} (h:oq p s w V x e w'):
  Tn p w w'∧((∃a r v,x=.ok a r∧e=.returned v∧V w' v a∧Rd w' p s r)∨∃n r,x=.bad n r∧e=qF n s r∧Rd w' p s r):=by
 obtain⟨h1,h2⟩:=h;refine⟨h1,?_⟩;cases x with
 |ok a r=>obtain⟨⟨v,e1,e2⟩,e3⟩:=h2;exact Or.inl ⟨a,r,v,rfl,e1,e2,e3⟩
 |bad n r=>exact Or.inr ⟨n,r,rfl,h2.1,h2.2⟩
theorem bM {w:World} {b j:Nat} {arr:Array Value} {t:TypeId} (h:w.heap[b]?=some (.cells arr t (0,0))):w.frozen? ⟨b,j,none⟩=false:=by
 simp[World.frozen?,h]
theorem Rd.other {w:World} {p b o:Nat} {s:ByteArray} {l:Bs} (h:Rd w p s l) (hb:b≠p) (h0:p<b) (v:Value):Rd (w.setCell ⟨b,o,none⟩ v) p s l:=
 h.turned ((Tn.refl b w).moved v o) hb h0
set_option maxHeartbeats 1000000 in
theorem Pg (p:Nat) (s:ByteArray) (l:Bs) (w:World) (h:Rd w p s l):
  Calls Tryz.prog 276 #[.pointer (some ⟨p,0,none⟩)] w fun e w'=>oq p s w (dL.val w.heap.size) (term l) e w':=by
 have hlt:=h.lt;have hA:Tn p w (w.alloc (.cells #[.bool false,.string {data:=#[]}] 187)):=(Tn.refl p w).alloc _;have HW:=hide (Pf 320 rW Hw AU p s l _ (h.turned (Tn.of_below (p:=p+1) (((Later.refl w).alloc (.cells #[.bool false,.string {data:=#[]}] 187)).below)) (by omega) (by omega)));have HA:=hide hA;clear h hA
 go_enter Tryz.func276,Tryz.ntmps276
 go_wp2_with fail
 refine HW.out.mono ?_;intro e w1 hE;obtain⟨hT,⟨a,r,v,hx,rfl,rfl,hR⟩|⟨n,r,hx,rfl,hR⟩⟩:=hE.split
 ·have hx':term l=.ok (isVar a,a) r:=by unfold term;rw[hx];rfl
  have hrow:w1.heap[w.heap.size]?=some (.cells #[.bool false,.string {data:=#[]}] 187 (0,0)):=by
   rw[hT.block _ (by simp) (by omega)];exact heap_alloc_new w _
  have z0:w1.cell? ⟨w.heap.size,0,none⟩=some (.bool false):=by rw[cell_of_row _ _ _ _ _ _ hrow];rfl
  have z1:w1.cell? ⟨w.heap.size,1,none⟩=some (.string {data:=#[]}):=by rw[cell_of_row _ _ _ _ _ _ hrow];rfl
  have f0:=bM (j:=0) hrow;have f1:=bM (j:=1) hrow;have HV:Hid (Calls Tryz.prog 321 #[.string (bs a)] w1 fun e w'=>e=.returned (.bool (isVar a))∧w'=w1):=by
   have:=tL (bs a) w1;rw[iD] at this;exact this
  have HX:=hide hx';have HT:=hide (HA.out.trans hT);have HR:=hide hR;have hp0:=hR.ne;clear hx hx' hT hR hrow hE HA
  go_wp2_with (go_at_call 321;refine HV.out.mono ?_;rintro e w' ⟨rfl,rfl⟩)
  refine bodyPost_ret (v:=.agg #[.bool (isVar a),.string (bs a)]) (by simp[results,Tryz.results276,go_sem,z0,z1]) rfl ?_;exact mK HX.out ((HT.out.setCell (Or.inr (Nat.le_refl _)) _).setCell (Or.inr (Nat.le_refl _)) _) ⟨_,rfl,rfl⟩ ((HR.out.other (by omega) (by omega) _).other (by omega) (by omega) _)
 ·have hx':term l=.bad n r:=by unfold term;rw[hx];rfl
  exact⟨rfl,eO hx' (HA.out.trans hT) hR⟩
end Go.Proofs.YtafmbokfkbccaaaGreatDoor
namespace Go.Proofs.YtafmbokfkbccaaaGreatDoor
open Go.RowKit Go.Sort
theorem Ka:∃i,Tryz.prog.info? 187=some i∧i.zero=some (.agg #[.bool false,.string ByteArray.empty])∧i.size=2∧i.bytes=24:=⟨Tryz.t187,by kernel_rfl,by kernel_rfl,by kernel_rfl,by kernel_rfl⟩
theorem EZ {lo:Nat} {w:World} {v:Value} {l:List dH} (h:dL.own 187 lo w v l) {c:List Value} {x:dH} (hc:dL.is (fun k=>lo≤k∧v.ownBlock≠some k) w c x) (hl:l.length+1≤1099511627776) (hlo:lo≤w.heap.size):
  ∃v' w',(Builtin.append_ #[83,83] 83 #[v,.slice (some ⟨w.heap.size,0,none⟩) 1 1]).run Tryz.prog (w.alloc (.cells c.toArray 187))=.ok v' w'∧dL.own 187 lo w' v' (l++[x])∧(w.alloc (.cells c.toArray 187)).grownBy w' v.ownBlock:=by
 obtain⟨i,i1,i2,i3,i4⟩:=Ka;exact Kind.kE h Tryz.underlying83 i1 i2 i3 i4 rfl (by decide) (by decide) hc hl hlo
set_option maxHeartbeats 2000000 in
theorem Kc (p:Nat) (s:ByteArray) (l:Bs) (w:World) (h:Rd w p s l):
  Calls Tryz.prog 275 #[.pointer (some ⟨p,0,none⟩),.int .i64 4,.func (.func 276) #[.pointer (some ⟨p,0,none⟩)] #[]] w fun e w'=>oq p s w (dL.sl (From w.heap.size)) (jg term 4 l) e w':=by
 have hlt:=h.lt;have HC:=hide (Pg p s l w h);clear h
 go_enter Tryz.func275,Tryz.ntmps275
 go_wp2_with fail
 refine HC.out.mono ?_;intro e w1 hE;obtain⟨hT,⟨a,r,v,hx,rfl,⟨c,rfl,hK⟩,hR⟩|⟨n,r,hx,rfl,hR⟩⟩:=hE.split
 ·have HO:=hide (Kind.BO (ty:=187) hK hT.size);have HG:Hid (jf term 3 [a] r=jg term 4 l):=by show _=_;unfold jg;rw[hx];rfl
  have HT:=hide (hT.alloc (.cells c.toArray 187));have HR:=hide (hR.below ((((Later.refl w1).alloc (.cells c.toArray 187))).below));have hlo:=hT.size;obtain rfl:=hK;clear hx hT hR hE HC;go_wp2
  go_loopg [7] 3 (fun k o wr=>∃out l',k+out.length=4∧dL.own 187 w.heap.size wr o out∧jf term k out l'=jg term 4 l∧Rd wr p s l'∧Tn p w wr)
  case atStart=>exact⟨[a],r,rfl,HO.out,HG.out,HR.out,HT.out⟩
  case round=>
   obtain⟨out,l',hk,hO,hG,hR,hT⟩:=hrel;clear HO HG HR HT;obtain⟨ao,co,rfl⟩:=Kind.bT hO;have HO:=hide hO;have HG:=hide hG;have HC:=hide (AQ p s l' [44] wr hR);have HT:=hide hT;clear hO hG hR hT
   go_wp2_with fail
   refine HC.out.mono ?_;rintro e w2 ⟨rfl,hR2,hT2⟩;have HR2:=hide hR2;have HT2:=hide (HT.out.trans hT2);have HO2:=hide (Kind.bR HO.out hT2 hlt);cases ht:(took [44] l').1
   ·have HX:Hid (jg term 4 l=.ok out (took [44] l').2):=by
     show _=_;rw[←HG.out];unfold jf;rw[if_neg (by rw[ht];simp)]
    clear ht hR2 hT2 HO HC HG HT;go_wp2;go_ret;exact mK HX.out HT2.out (Kind.iV HO2.out (by omega)) HR2.out
   ·cases gk with
    |zero=>
     have HX:Hid (jg term 4 l=.bad 5 (took [44] l').2):=by
      show _=_;rw[←HG.out];unfold jf;rw[if_pos ht]
     have hlen:((out.length:Int)==4)=true:=by rw[beq_iff_eq];omega
     have HF:=hide (Hu p s _ 5 w2 hR2);clear ht hR2 hT2 HO HC HG HT
     go_wp2_with fail
     refine HF.out.mono ?_;rintro e w3 ⟨rfl,rfl⟩;exact⟨rfl,eO HX.out HT2.out HR2.out⟩
    |succ n=>
     have HX:Hid (jg term 4 l=(term (took [44] l').2).next fun a r=>jf term n (out++[a]) r):=by
      show _=_;rw[←HG.out,xu ht]
     have hlen:((out.length:Int)==4)=false:=by rw[beq_eq_false_iff_ne];omega
     have HP:=hide (Pg p s _ w2 hR2);clear ht hR2 hT2 HO HC HG HT
     go_wp2_with fail
     refine HP.out.mono ?_;intro e w3 hE;obtain⟨hT3,⟨a',r',v,hx,rfl,⟨c',rfl,hK3⟩,hR3⟩|⟨n',r',hx,rfl,hR3⟩⟩:=hE.split
     ·have hO3:=Kind.bR HO2.out hT3 hlt;have hsz2:=HT2.out.size;obtain⟨v',w4,hrun,hO4,hg4⟩:=EZ hO3 (dL.mono hK3 fun k hk hB=>⟨by have:w2.heap.size≤k:=hB;omega,fun e=>by
       have h1:=(Kind.eT HO2.out e).2;have h2:w2.heap.size≤k:=hB;omega⟩) (by omega) (by have:=hT3.size;omega)
      have HR4:=hide hrun;have HO4:=hide hO4;have HG4:Hid (jf term n (out++[a']) r'=jg term 4 l):=by show _=_;rw[HX.out,hx];rfl
      have hblk:∀k,k<w3.heap.size→k<w.heap.size→w4.heap[k]?=w3.heap[k]?:=fun k hk hk'=>
       (hg4.block k (by simp;omega) (fun e=>by have:=(Kind.eT HO2.out e.symm).1;omega)).trans (Below.heap_alloc w3 _ k hk)
      have hs4:w3.heap.size≤w4.heap.size:=by have:=hg4.size;simp at this;omega
      have HT4:Hid (Tn p w w4):=⟨hg4.os.trans (hT3.os.trans HT2.out.os),hg4.tape.trans (hT3.tape.trans HT2.out.tape),hg4.output.trans (hT3.output.trans HT2.out.output),by have:=hT3.size;omega,
       fun k hk ho=>(hblk k (by have:=hT3.size;omega) hk).trans ((hT3.block k (by omega) ho).trans (HT2.out.block k hk ho))⟩
      have hRd:Rd w4 p s r':=⟨hR3.short,hR3.suf,by have:=hR3.lt;omega,hR3.ne,
       by rw[World.cell?_of_block (w:=w3) (a:=⟨p,0,none⟩) (hblk p hR3.lt hlt)];exact hR3.c0,by rw[World.cell?_of_block (w:=w3) (a:=⟨p,1,none⟩) (hblk p hR3.lt hlt)];exact hR3.c1,
       by rw[World.frozen?_of_block (w:=w3) (a:=⟨p,1,none⟩) (hblk p hR3.lt hlt)];exact hR3.fz,
       by obtain⟨m,e⟩:=hR3.g;exact⟨m,by rw[World.cell?_of_block (w:=w3) (a:=⟨1,0,none⟩) (hblk 1 (by have:=hR3.lt;have:=hR3.ne;omega) (by have:=hR3.ne;omega))];exact e⟩⟩
      have HRd:=hide hRd;obtain rfl:=hK3;clear hx hE hT3 hR3 hrun hO4 hg4 hO3 hRd hblk HR2
      go_wp2_with (at_builtin;refine wpList_append_run rfl (.tmp 21) (.tmp 24) 83 rfl _ _ _ _ rfl rfl HR4.out ?_)
      go_roundg n
      case measure=>exact Nat.lt_succ_self n
      case rel=>exact⟨out++[a'],r',by simp;omega,HO4.out,HG4.out,HRd.out,HT4.out⟩
     ·have hx':jg term 4 l=.bad n' r':=by rw[HX.out,hx];rfl
      exact⟨rfl,eO hx' (HT2.out.trans hT3) hR3⟩
 ·have hx':jg term 4 l=.bad n r:=by unfold jg;rw[hx];rfl
  exact⟨rfl,eO hx' hT hR⟩
end Go.Proofs.YtafmbokfkbccaaaGreatDoor
namespace Go.Proofs.YtafmbokfkbccaaaGreatDoor
open Go.RowKit Go.Sort
theorem Rd.alloc {w:World} {p:Nat} {s:ByteArray} {l:Bs} (h:Rd w p s l) (o:Obj):Rd (w.alloc o) p s l:=h.below ((Later.refl w).alloc o).below
theorem Tn.row {p b:Nat} {w w':World} {arr:Array Value} {t:TypeId} (h:Tn p w w') (hr:w.heap[b]?=some (.cells arr t (0,0))) (hb:b≠p):w'.heap[b]?=some (.cells arr t (0,0)):=by
 rw[h.block b (Array.getElem?_eq_some_iff.1 hr).1 hb];exact hr
theorem NM {w:World} {b:Nat} {x y z:Value} {t:TypeId} (h:w.heap[b]?=some (.cells #[x,y,z] t (0,0))):
  w.cell? ⟨b,0,none⟩=some x∧w.cell? ⟨b,1,none⟩=some y∧w.cell? ⟨b,2,none⟩=some z∧w.frozen? ⟨b,0,none⟩=false∧w.frozen? ⟨b,1,none⟩=false∧w.frozen? ⟨b,2,none⟩=false:=
 ⟨by rw[cell_of_row _ _ _ _ _ _ h];rfl,by rw[cell_of_row _ _ _ _ _ _ h];rfl,by rw[cell_of_row _ _ _ _ _ _ h];rfl,bM h,bM h,bM h⟩
set_option maxHeartbeats 2000000 in
theorem Ph (p:Nat) (s:ByteArray) (l:Bs) (w:World) (h:Rd w p s l):
  Calls Tryz.prog 234 #[.pointer (some ⟨p,0,none⟩)] w fun e w'=>oq p s w (bU.val w.heap.size) (atom l) e w':=by
 have hlt:=h.lt;have hne:=h.ne;have hA:Tn p w (w.alloc (.cells #[.bool false,.string {data:=#[]},.slice none 0 0] 85)):=(Tn.refl p w).alloc _;have HW:=hide (Pf 104 isNamed AR AV p s l _ (h.alloc (.cells #[.bool false,.string {data:=#[]},.slice none 0 0] 85)));clear h
 go_enter Tryz.func234,Tryz.ntmps234
 go_wp2_with fail
 refine HW.out.mono ?_;intro e w1 hE;obtain⟨hT,⟨a,r,v,hx,rfl,rfl,hR⟩|⟨n,r,hx,rfl,hR⟩⟩:=hE.split
 ·have hr1:=hT.row (heap_alloc_new w _) (b:=w.heap.size) (by omega);have hlt1:w.heap.size<w1.heap.size:=by have:=hT.size;simp at this;omega
  have hT1:=hA.trans hT;have HTk:=hide (AQ p s r [40] _ (hR.alloc (.cells #[.bool false,.string (bs a),.slice none 0 0] 85)));have HT1:=hide (hT1.alloc (.cells #[.bool false,.string (bs a),.slice none 0 0] 85));have HX:Hid (atom l=if(took [40] r).1 then(jg term 4 (took [40] r).2).next fun ts r=>dS [41] ⟨false,a,ts⟩ r else .ok ⟨false,a,[]⟩ (took [40] r).2):=by
   show _=_;unfold atom;rw[hx];rfl
  have hr1':=(Tn.refl p w1).alloc (.cells #[.bool false,.string (bs a),.slice none 0 0] 85) |>.row hr1 (by omega);have hr2:=heap_alloc_new w1 (.cells #[.bool false,.string (bs a),.slice none 0 0] 85);clear hx hT hR hE hA hT1 hr1 HW
  go_wp2_with fail
  refine HTk.out.mono ?_;rintro e w2 ⟨rfl,hR2,hT2⟩
  replace hr1:=hT2.row hr1' (by omega)
  replace hr2:=hT2.row hr2 (by omega)
  have hlt2:w1.heap.size<w2.heap.size:=by have:=hT2.size;simp at this;omega
  have HT2:=hide (HT1.out.trans hT2);have HR2:=hide hR2;cases ht:(took [40] r).1
  ·have HX2:Hid (atom l=.ok ⟨false,a,[]⟩ (took [40] r).2):=by show _=_;rw[HX.out,if_neg (by rw[ht];simp)]
   obtain⟨z0,z1,z2,f0,f1,f2⟩:=NM hr1;obtain⟨y0,y1,y2,_,_,_⟩:=NM hr2;clear ht hR2 hT2 HTk HT1 HX hr1' hr1 hr2;go_wp2;refine bodyPost_ret (v:=.agg #[.bool false,.string (bs a),.slice none 0 0]) (by simp[results,Tryz.results234,go_sem,z0,z1,z2]) rfl ?_;exact mK HX2.out (((HT2.out.setCell (Or.inr (Nat.le_refl _)) _).setCell (Or.inr (Nat.le_refl _)) _).setCell (Or.inr (Nat.le_refl _)) _) ⟨_,rfl,_,rfl,dL.dw _ _ _ _⟩
    (((HR2.out.other (by omega) (by omega) _).other (by omega) (by omega) _).other (by omega) (by omega) _)
  ·have HX2:Hid (atom l=(jg term 4 (took [40] r).2).next fun ts r=>dS [41] ⟨false,a,ts⟩ r):=by show _=_;rw[HX.out,if_pos ht]
   have HL:=hide (Kc p s _ w2 hR2);clear ht hR2 hT2 HTk HT1 HX hr1'
   go_wp2_with fail
   refine HL.out.mono ?_;intro e w3 hE3;obtain⟨hT3,⟨ts,r3,v3,hx3,rfl,hV3,hR3⟩|⟨n,r3,hx3,rfl,hR3⟩⟩:=hE3.split
   ·obtain⟨a3,c3,rfl⟩:=Kind.slice hV3
    replace hr1:=hT3.row hr1 (by omega)
    replace hr2:=hT3.row hr2 (by omega)
    have TW:=hT3.size;obtain⟨y0,y1,y2,g0,g1,g2⟩:=NM hr2;obtain⟨z0,z1,z2,f0,f1,f2⟩:=NM hr1;have hTs:Tn (w1.heap.size) w3 (w3.setCell ⟨w1.heap.size,2,none⟩ (.slice a3 ts.length c3)):=(Tn.refl _ w3).moved _ _;have HTk:=hide (AQ p s r3 [41] _ (hR3.turned hTs (by omega) (by omega)));have HV3:Hid (dL.sl (From w2.heap.size) (w3.setCell ⟨w1.heap.size,2,none⟩ (.slice a3 ts.length c3)) (.slice a3 ts.length c3) ts):=Kind.fB hV3 hTs (by omega);have HT3:=hide ((HT2.out.trans hT3).setCell (x:=⟨w1.heap.size,2,none⟩) (Or.inr (by show w.heap.size≤w1.heap.size;omega)) (.slice a3 ts.length c3));have HX3:Hid (atom l=dS [41] ⟨false,a,ts⟩ r3):=by show _=_;rw[HX2.out,hx3];rfl
    have hq1:=hTs.row hr1 (by omega);have q0:(w3.setCell ⟨w1.heap.size,2,none⟩ (.slice a3 ts.length c3)).cell? ⟨w1.heap.size,0,none⟩=some (.bool false):=by rw[World.cell?_setCell_other _ _ _ _ (by simp)];exact y0
    have q1:(w3.setCell ⟨w1.heap.size,2,none⟩ (.slice a3 ts.length c3)).cell? ⟨w1.heap.size,1,none⟩=some (.string (bs a)):=by rw[World.cell?_setCell_other _ _ _ _ (by simp)];exact y1
    have q2:(w3.setCell ⟨w1.heap.size,2,none⟩ (.slice a3 ts.length c3)).cell? ⟨w1.heap.size,2,none⟩=some (.slice a3 ts.length c3):=World.cell?_setCell_same _ _ _ y2;have Pj:w3.heap.size=(w3.setCell ⟨w1.heap.size,2,none⟩ (.slice a3 ts.length c3)).heap.size:=(size_setCell _ _ _).symm;clear hx3 hE3 hV3 hR3 HL HX2 hr1 hr2 z0 z1 z2 f0 f1 f2 HR2 hTs y0 y1
    go_wp2_with fail
    refine HTk.out.mono ?_;rintro e w4 ⟨rfl,hR4,hT4⟩;have TY:=hT4.row hq1 (by omega);obtain⟨z0,z1,z2,f0,f1,f2⟩:=NM TY;rw[←hT4.cell (x:=⟨w1.heap.size,0,none⟩) (by show w1.heap.size<_;omega) (by show w1.heap.size≠p;omega)] at q0;rw[←hT4.cell (x:=⟨w1.heap.size,1,none⟩) (by show w1.heap.size<_;omega) (by show w1.heap.size≠p;omega)] at q1;rw[←hT4.cell (x:=⟨w1.heap.size,2,none⟩) (by show w1.heap.size<_;omega) (by show w1.heap.size≠p;omega)] at q2;have HV4:=hide (Kind.fB HV3.out hT4 (by omega));have HT4:=hide (HT3.out.trans hT4);have HR4:=hide hR4;have HM:=hide (EY p s _ ((took [41] r3).1) w4 hR4);have hsz5:=hT4.size;clear hR4 hT4 HTk HV3 HT3 hq1 TY y2;cases ht:(took [41] r3).1
    ·have HX4:Hid (atom l=.bad 2 (took [41] r3).2):=by show _=_;rw[HX3.out];unfold dS;rw[if_neg (by rw[ht];simp)]
     rw[ht] at HM;clear ht HX3
     go_wp2_with fail
     refine HM.out.mono ?_;rintro e w5 ⟨rfl,rfl⟩;exact⟨rfl,eO HX4.out HT4.out HR4.out⟩
    ·have HX4:Hid (atom l=.ok ⟨false,a,ts⟩ (took [41] r3).2):=by show _=_;rw[HX3.out];unfold dS;rw[if_pos ht]
     rw[ht] at HM;clear ht HX3
     go_wp2_with fail
     refine HM.out.mono ?_;rintro e w5 ⟨rfl,rfl⟩;go_wp2;refine bodyPost_ret (v:=.agg #[.bool false,.string (bs a),.slice a3 ts.length c3]) (by simp[results,Tryz.results234,go_sem,z0,z1,z2]) rfl ?_;have hTb:Tn w.heap.size w5 (((w5.setCell ⟨w.heap.size,0,none⟩ (.bool false)).setCell ⟨w.heap.size,1,none⟩ (.string (bs a))).setCell ⟨w.heap.size,2,none⟩ (.slice a3 ts.length c3)):=
      (((Tn.refl _ w5).moved _ _).moved _ _).moved _ _
     exact mK HX4.out (((HT4.out.setCell (Or.inr (Nat.le_refl _)) _).setCell (Or.inr (Nat.le_refl _)) _).setCell (Or.inr (Nat.le_refl _)) _) ⟨_,rfl,_,rfl,Kind.aH (Kind.fB HV4.out hTb (by omega)) (fun k _ hB=>by have:w2.heap.size≤k:=hB;show w.heap.size≤k;omega)⟩
      (HR4.out.turned hTb (by omega) (by omega))
   ·have hx':atom l=.bad n r3:=by rw[HX2.out,hx3];rfl
    exact⟨rfl,eO hx' (HT2.out.trans hT3) hR3⟩
 ·have hx':atom l=.bad n r:=by unfold atom;rw[hx];rfl
  exact⟨rfl,eO hx' (hA.trans hT) hR⟩
set_option maxHeartbeats 2000000 in
theorem AX (p:Nat) (s:ByteArray) (l:Bs) (w:World) (h:Rd w p s l):
  Calls Tryz.prog 214 #[.pointer (some ⟨p,0,none⟩)] w fun e w'=>oq p s w (bU.val w.heap.size) (dN l) e w':=by
 have hlt:=h.lt;have hne:=h.ne;have HA:=hide ((Tn.refl p w).alloc (.cells #[.bool false,.string {data:=#[]},.slice none 0 0] 85));have hr1:=heap_alloc_new w (.cells #[.bool false,.string {data:=#[]},.slice none 0 0] 85);have HW:=hide (AQ p s l [33] _ (h.alloc (.cells #[.bool false,.string {data:=#[]},.slice none 0 0] 85)));clear h
 go_enter Tryz.func214,Tryz.ntmps214
 go_wp2_with fail
 refine HW.out.mono ?_;rintro e w1 ⟨rfl,hR,hT⟩
 replace hr1:=hT.row hr1 (by omega)
 have hlt1:w.heap.size<w1.heap.size:=by have:=hT.size;simp at this;omega
 have HT1:=hide (HA.out.trans hT);have HC:=hide (Ph p s _ w1 hR);clear hR hT HA HW
 go_wp2_with fail
 refine HC.out.mono ?_;intro e w2 hE;obtain⟨hT2,⟨a,r,v,hx,rfl,⟨c,rfl,v2,rfl,hV⟩,hR2⟩|⟨n,r,hx,rfl,hR2⟩⟩:=hE.split
 ·obtain⟨a3,c3,rfl⟩:=Kind.slice hV
  replace hr1:=hT2.row hr1 (by omega)
  have hlt2:=hT2.size;have HX:Hid (dN l=.ok {a with no:=(took [33] l).1} r):=by show _=_;unfold dN;rw[hx];rfl
  have HT2:=hide ((HT1.out.trans hT2).alloc (.cells #[.bool (took [33] l).1,.string (bs a.name),.slice a3 a.terms.length c3] 85));have HR2:=hide (hR2.alloc (.cells #[.bool (took [33] l).1,.string (bs a.name),.slice a3 a.terms.length c3] 85));have hTa:Tn (w2.heap.size+1) w2 (w2.alloc (.cells #[.bool (took [33] l).1,.string (bs a.name),.slice a3 a.terms.length c3] 85)):=(Tn.refl _ w2).alloc _;have HV:Hid (dL.sl (From w1.heap.size) (w2.alloc (.cells #[.bool (took [33] l).1,.string (bs a.name),.slice a3 a.terms.length c3] 85)) (.slice a3 a.terms.length c3) a.terms):=Kind.aM hV hTa.size (fun k hk _=>hTa.block k hk (by omega));obtain⟨z0,z1,z2,f0,f1,f2⟩:=NM (hTa.row hr1 (by omega));clear hx hE hV hR2 HT1 HC hr1 hTa;generalize(took [33] l).1=b at*;go_wp2;refine bodyPost_ret (v:=.agg #[.bool b,.string (bs a.name),.slice a3 a.terms.length c3]) (by simp[results,Tryz.results214,go_sem,z0,z1,z2]) rfl ?_;generalize w2.alloc (.cells #[.bool b,.string (bs a.name),.slice a3 a.terms.length c3] 85)=w3 at*;have hTb:Tn w.heap.size w3 (((w3.setCell ⟨w.heap.size,0,none⟩ (.bool b)).setCell ⟨w.heap.size,1,none⟩ (.string (bs a.name))).setCell ⟨w.heap.size,2,none⟩ (.slice a3 a.terms.length c3)):=
   (((Tn.refl _ w3).moved _ _).moved _ _).moved _ _
  exact mK HX.out (((HT2.out.setCell (Or.inr (Nat.le_refl _)) _).setCell (Or.inr (Nat.le_refl _)) _).setCell (Or.inr (Nat.le_refl _)) _) ⟨_,rfl,_,rfl,Kind.aH (Kind.fB HV.out hTb (by omega)) (fun k _ hB=>by have:w1.heap.size≤k:=hB;show w.heap.size≤k;omega)⟩
   (HR2.out.turned hTb (by omega) (by omega))
 ·have hx':dN l=.bad n r:=by unfold dN;rw[hx];rfl
  exact⟨rfl,eO hx' (HT1.out.trans hT2) hR2⟩
end Go.Proofs.YtafmbokfkbccaaaGreatDoor
namespace Go.Proofs.YtafmbokfkbccaaaGreatDoor
open Go.RowKit Go.Sort
theorem Ke:∃i,Tryz.prog.info? 85=some i∧i.zero=some (.agg #[.bool false,.string ByteArray.empty,.slice none 0 0])∧i.size=3∧i.bytes=48:=⟨Tryz.t85,by kernel_rfl,by kernel_rfl,by kernel_rfl,by kernel_rfl⟩
theorem E5 {lo:Nat} {w:World} {v:Value} {l:List aF} (h:bU.own 85 lo w v l) {c:List Value} {x:aF} (hc:bU.is (fun k=>lo≤k∧v.ownBlock≠some k) w c x) (hl:l.length+1≤1099511627776) (hlo:lo≤w.heap.size):
  ∃v' w',(Builtin.append_ #[73,73] 73 #[v,.slice (some ⟨w.heap.size,0,none⟩) 1 1]).run Tryz.prog (w.alloc (.cells c.toArray 85))=.ok v' w'∧bU.own 85 lo w' v' (l++[x])∧(w.alloc (.cells c.toArray 85)).grownBy w' v.ownBlock:=by
 obtain⟨i,i1,i2,i3,i4⟩:=Ke;exact Kind.kE h Tryz.underlying73 i1 i2 i3 i4 rfl (by decide) (by decide) hc hl hlo
set_option maxHeartbeats 2000000 in
theorem Kg (p:Nat) (s:ByteArray) (l:Bs) (w:World) (h:Rd w p s l):
  Calls Tryz.prog 213 #[.pointer (some ⟨p,0,none⟩),.int .i64 5,.func (.func 214) #[.pointer (some ⟨p,0,none⟩)] #[]] w fun e w'=>oq p s w (bU.sl (From w.heap.size)) (jg dN 5 l) e w':=by
 have hlt:=h.lt;have HC:=hide (AX p s l w h);clear h
 go_enter Tryz.func213,Tryz.ntmps213
 go_wp2_with fail
 refine HC.out.mono ?_;intro e w1 hE;obtain⟨hT,⟨a,r,v,hx,rfl,⟨c,rfl,hK⟩,hR⟩|⟨n,r,hx,rfl,hR⟩⟩:=hE.split
 ·have HO:=hide (Kind.BO (ty:=85) hK hT.size);have HG:Hid (jf dN 4 [a] r=jg dN 5 l):=by show _=_;unfold jg;rw[hx];rfl
  have HT:=hide (hT.alloc (.cells c.toArray 85));have HR:=hide (hR.below ((((Later.refl w1).alloc (.cells c.toArray 85))).below));have hlo:=hT.size;obtain⟨tv,rfl,hts⟩:=hK;obtain⟨ta,tc,rfl⟩:=Kind.slice hts;clear hts;clear hx hT hR hE HC;go_wp2
  go_loopg [7] 4 (fun k o wr=>∃out l',k+out.length=5∧bU.own 85 w.heap.size wr o out∧jf dN k out l'=jg dN 5 l∧Rd wr p s l'∧Tn p w wr)
  case atStart=>exact⟨[a],r,rfl,HO.out,HG.out,HR.out,HT.out⟩
  case round=>
   obtain⟨out,l',hk,hO,hG,hR,hT⟩:=hrel;clear HO HG HR HT;obtain⟨ao,co,rfl⟩:=Kind.bT hO;have HO:=hide hO;have HG:=hide hG;have HC:=hide (AQ p s l' [44] wr hR);have HT:=hide hT;clear hO hG hR hT
   go_wp2_with fail
   refine HC.out.mono ?_;rintro e w2 ⟨rfl,hR2,hT2⟩;have HR2:=hide hR2;have HT2:=hide (HT.out.trans hT2);have HO2:=hide (Kind.bR HO.out hT2 hlt);cases ht:(took [44] l').1
   ·have HX:Hid (jg dN 5 l=.ok out (took [44] l').2):=by
     show _=_;rw[←HG.out];unfold jf;rw[if_neg (by rw[ht];simp)]
    clear ht hR2 hT2 HO HC HG HT;go_wp2;go_ret;exact mK HX.out HT2.out (Kind.iV HO2.out (by omega)) HR2.out
   ·cases gk with
    |zero=>
     have HX:Hid (jg dN 5 l=.bad 5 (took [44] l').2):=by
      show _=_;rw[←HG.out];unfold jf;rw[if_pos ht]
     have hlen:((out.length:Int)==5)=true:=by rw[beq_iff_eq];omega
     have HF:=hide (Hu p s _ 5 w2 hR2);clear ht hR2 hT2 HO HC HG HT
     go_wp2_with fail
     refine HF.out.mono ?_;rintro e w3 ⟨rfl,rfl⟩;exact⟨rfl,eO HX.out HT2.out HR2.out⟩
    |succ n=>
     have HX:Hid (jg dN 5 l=(dN (took [44] l').2).next fun a r=>jf dN n (out++[a]) r):=by
      show _=_;rw[←HG.out,xu ht]
     have hlen:((out.length:Int)==5)=false:=by rw[beq_eq_false_iff_ne];omega
     have HP:=hide (AX p s _ w2 hR2);clear ht hR2 hT2 HO HC HG HT
     go_wp2_with fail
     refine HP.out.mono ?_;intro e w3 hE;obtain⟨hT3,⟨a',r',v,hx,rfl,⟨c',rfl,hK3⟩,hR3⟩|⟨n',r',hx,rfl,hR3⟩⟩:=hE.split
     ·have hO3:=Kind.bR HO2.out hT3 hlt;have hsz2:=HT2.out.size;obtain⟨v',w4,hrun,hO4,hg4⟩:=E5 hO3 (bU.mono hK3 fun k hk hB=>⟨by have:w2.heap.size≤k:=hB;omega,fun e=>by
       have h1:=(Kind.eT HO2.out e).2;have h2:w2.heap.size≤k:=hB;omega⟩) (by omega) (by have:=hT3.size;omega)
      have HR4:=hide hrun;have HO4:=hide hO4;have HG4:Hid (jf dN n (out++[a']) r'=jg dN 5 l):=by show _=_;rw[HX.out,hx];rfl
      have hblk:∀k,k<w3.heap.size→k<w.heap.size→w4.heap[k]?=w3.heap[k]?:=fun k hk hk'=>
       (hg4.block k (by simp;omega) (fun e=>by have:=(Kind.eT HO2.out e.symm).1;omega)).trans (Below.heap_alloc w3 _ k hk)
      have hs4:w3.heap.size≤w4.heap.size:=by have:=hg4.size;simp at this;omega
      have HT4:Hid (Tn p w w4):=⟨hg4.os.trans (hT3.os.trans HT2.out.os),hg4.tape.trans (hT3.tape.trans HT2.out.tape),hg4.output.trans (hT3.output.trans HT2.out.output),by have:=hT3.size;omega,
       fun k hk ho=>(hblk k (by have:=hT3.size;omega) hk).trans ((hT3.block k (by omega) ho).trans (HT2.out.block k hk ho))⟩
      have hRd:Rd w4 p s r':=⟨hR3.short,hR3.suf,by have:=hR3.lt;omega,hR3.ne,
       by rw[World.cell?_of_block (w:=w3) (a:=⟨p,0,none⟩) (hblk p hR3.lt hlt)];exact hR3.c0,by rw[World.cell?_of_block (w:=w3) (a:=⟨p,1,none⟩) (hblk p hR3.lt hlt)];exact hR3.c1,
       by rw[World.frozen?_of_block (w:=w3) (a:=⟨p,1,none⟩) (hblk p hR3.lt hlt)];exact hR3.fz,
       by obtain⟨m,e⟩:=hR3.g;exact⟨m,by rw[World.cell?_of_block (w:=w3) (a:=⟨1,0,none⟩) (hblk 1 (by have:=hR3.lt;have:=hR3.ne;omega) (by have:=hR3.ne;omega))];exact e⟩⟩
      have HRd:=hide hRd;obtain⟨tv3,rfl,Pk⟩:=hK3;obtain⟨ta3,tc3,rfl⟩:=Kind.slice Pk;clear Pk;clear hx hE hT3 hR3 hrun hO4 hg4 hO3 hRd hblk HR2
      go_wp2_with (at_builtin;refine wpList_append_run rfl (.tmp 21) (.tmp 24) 73 rfl _ _ _ _ rfl rfl HR4.out ?_)
      go_roundg n
      case measure=>exact Nat.lt_succ_self n
      case rel=>exact⟨out++[a'],r',by simp;omega,HO4.out,HG4.out,HRd.out,HT4.out⟩
     ·have hx':jg dN 5 l=.bad n' r':=by rw[HX.out,hx];rfl
      exact⟨rfl,eO hx' (HT2.out.trans hT3) hR3⟩
 ·have hx':jg dN 5 l=.bad n r:=by unfold jg;rw[hx];rfl
  exact⟨rfl,eO hx' hT hR⟩
end Go.Proofs.YtafmbokfkbccaaaGreatDoor
