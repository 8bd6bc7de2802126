import Derived.Test.YtafmbokfkbccaaaGreatDoorJN25
import Derived.Defers
import Derived.Recover
import Derived.Test.YtafmbokfkbccaaaGreatDoorJN23
import Derived.Test.YtafmbokfkbccaaaGreatDoorJN2
namespace Go.Proofs.YtafmbokfkbccaaaGreatDoor
open Go.RowKit Go.Sort
set_option maxHeartbeats 1000000 in
theorem bodyC (p:Nat) (s:ByteArray) (l:Bs) (w:World) (h:Rd w p s l):
  Calls Tryz.prog 153 #[.pointer (some ⟨p,0,none⟩)] w fun e w'=>oq p s w (bU.sl (From w.heap.size)) (body l) e w':=by
 have HC:=hide (Kg p s l w h);have hmf:∀(fn:Fn) (first cap:Array Value) (w:World),(Instr.makeFunc fn first cap).run Tryz.prog w=.ok (.func fn first cap) w:=fun _ _ _ _=>rfl;clear h
 go_enter Tryz.func153,Tryz.ntmps153
 go_wp2_with fail
 refine HC.out.mono ?_;intro e w1 hE;obtain⟨hT,⟨a,r,v,hx,rfl,hV,hR⟩|⟨n,r,hx,rfl,hR⟩⟩:=hE.split
 ·obtain⟨a1,c1,rfl⟩:=Kind.slice hV;have HX:Hid (body l=.ok a r):=hx;have HT:=hide hT;have HV:=hide hV;have HR:=hide hR;clear hx hT hV hR hE;go_wp2;go_ret;exact mK HX.out HT.out HV.out HR.out
 ·exact⟨rfl,eO hx hT hR⟩
theorem Qt {w:World} {b:Nat} {x y z u:Value} {t:TypeId} (h:w.heap[b]?=some (.cells #[x,y,z,u] t (0,0))):
  w.cell? ⟨b,0,none⟩=some x∧w.cell? ⟨b,1,none⟩=some y∧w.cell? ⟨b,2,none⟩=some z∧w.cell? ⟨b,3,none⟩=some u∧w.frozen? ⟨b,0,none⟩=false∧w.frozen? ⟨b,1,none⟩=false∧w.frozen? ⟨b,2,none⟩=false∧w.frozen? ⟨b,3,none⟩=false:=
 ⟨by rw[cell_of_row _ _ _ _ _ _ h];rfl,by rw[cell_of_row _ _ _ _ _ _ h];rfl,by rw[cell_of_row _ _ _ _ _ _ h];rfl,by rw[cell_of_row _ _ _ _ _ _ h];rfl,bM h,bM h,bM h,bM h⟩
abbrev But (lo q:Nat):Nat→Prop:=fun k=>lo≤k∧k≠q
theorem Kind.E8 {α:Type} {K:Kind α} {p q lo:Nat} {w w':World} {v:Value} {l:List α} (h:K.sl (But lo q) w v l) (k:Tn p w w') (hp:p<lo∨p=q):K.sl (But lo q) w' v l:=
 Kind.aM h k.size fun i hi hB=>k.block i hi (by have:=hB.1;have:=hB.2;omega)
theorem Kind.Hy {α:Type} {K:Kind α} {q lo:Nat} {w:World} {v:Value} {l:List α} (h:K.sl (But lo q) w v l):K.sl (From lo) w v l:=Kind.aH h fun _ _ hB=>hB.1
theorem Hz {p lo b:Nat} {s:ByteArray} {l r:Bs} {w w4:World} {a:aF} {bd:List aF} {tv bv:Value} (hX:rule l=.ok ⟨a,bd⟩ r) (hno:a.no=false) (hT:Tn p w w4) (hR:Rd w4 p s r)
  (hV:dL.sl (From lo) w4 tv a.terms) (hB:bU.sl (From lo) w4 bv bd) (hlo:w.heap.size<lo) (hlt:p<w.heap.size) (hb:b=w.heap.size):
  oq p s w (dU.val w.heap.size) (rule l) (.returned (.agg #[.bool false,.string (bs a.name),tv,bv])) ((((w4.setCell ⟨b,0,none⟩ (.bool false)).setCell ⟨b,1,none⟩ (.string (bs a.name))).setCell ⟨b,2,none⟩ tv).setCell ⟨b,3,none⟩ bv):=by
 subst hb;have hTb:Tn w.heap.size w4 ((((w4.setCell ⟨w.heap.size,0,none⟩ (.bool false)).setCell ⟨w.heap.size,1,none⟩ (.string (bs a.name))).setCell ⟨w.heap.size,2,none⟩ tv).setCell ⟨w.heap.size,3,none⟩ bv):=
  ((((Tn.refl _ w4).moved _ _).moved _ _).moved _ _).moved _ _
 have mono:∀k,k<((((w4.setCell ⟨w.heap.size,0,none⟩ (.bool false)).setCell ⟨w.heap.size,1,none⟩ (.string (bs a.name))).setCell ⟨w.heap.size,2,none⟩ tv).setCell ⟨w.heap.size,3,none⟩ bv).heap.size→From lo k→From w.heap.size k:=
  fun k _ hB=>by have:lo≤k:=hB;show w.heap.size≤k;omega
 exact mK hX ((((hT.setCell (Or.inr (Nat.le_refl _)) _).setCell (Or.inr (Nat.le_refl _)) _).setCell (Or.inr (Nat.le_refl _)) _).setCell (Or.inr (Nat.le_refl _)) _)
  ⟨_,rfl,_,_,by rw[hno],Kind.aH (Kind.fB hV hTb hlo) mono,Kind.aH (Kind.fB hB hTb hlo) mono⟩ (hR.turned hTb (by omega) (by omega))
theorem MS {l r:Bs} {a:aF} (h:atom l=.ok a r):a.no=false:=by
 obtain⟨w,r1,h1,h2⟩:=Res.sF h;split at h2
 ·obtain⟨ts,r2,h4,h5⟩:=Res.sF h2;rw[(BM h5).2.1]
 ·cases h2;rfl
set_option maxHeartbeats 2000000 in
theorem RS (p:Nat) (s:ByteArray) (l:Bs) (w:World) (h:Rd w p s l):
  Calls Tryz.prog 172 #[.pointer (some ⟨p,0,none⟩)] w fun e w'=>oq p s w (dU.val w.heap.size) (rule l) e w':=by
 have hlt:=h.lt;have hne:=h.ne;have HA:=hide ((Tn.refl p w).alloc (.cells #[.bool false,.string {data:=#[]},.slice none 0 0,.slice none 0 0] 87));have hr1:=heap_alloc_new w (.cells #[.bool false,.string {data:=#[]},.slice none 0 0,.slice none 0 0] 87);have HW:=hide (Ph p s l _ (h.alloc (.cells #[.bool false,.string {data:=#[]},.slice none 0 0,.slice none 0 0] 87)));clear h
 go_enter Tryz.func172,Tryz.ntmps172
 go_wp2_with fail
 refine HW.out.mono ?_;intro e w1 hE;obtain⟨hT,⟨a,r,v,hx,rfl,⟨c,rfl,v2,rfl,hV⟩,hR⟩|⟨n,r,hx,rfl,hR⟩⟩:=hE.split
 ·obtain⟨a1,c1,rfl⟩:=Kind.slice hV;have hno:=MS hx
  replace hr1:=hT.row hr1 (by omega)
  have hlt1:w.heap.size<w1.heap.size:=by have:=hT.size;simp at this;omega
  have HT1:=hide ((HA.out.trans hT).alloc (.cells #[.bool false,.string (bs a.name),.slice a1 a.terms.length c1,.slice none 0 0] 87));have HTk:=hide (AQ p s r [58,45] _ (hR.alloc (.cells #[.bool false,.string (bs a.name),.slice a1 a.terms.length c1,.slice none 0 0] 87)));have HX:Hid (rule l=if(took [58,45] r).1 then(body (took [58,45] r).2).next fun b r=>dS [46] ⟨a,b⟩ r else dS [46] ⟨a,[]⟩ (took [58,45] r).2):=by
   show _=_;unfold rule;rw[hx];rfl
  have hTa:Tn p w1 (w1.alloc (.cells #[.bool false,.string (bs a.name),.slice a1 a.terms.length c1,.slice none 0 0] 87)):=(Tn.refl p w1).alloc _;have hr2:=heap_alloc_new w1 (.cells #[.bool false,.string (bs a.name),.slice a1 a.terms.length c1,.slice none 0 0] 87)
  replace hr1:=hTa.row hr1 (by omega)
  have hV1:dL.sl (But (w.heap.size+1) w1.heap.size) (w1.alloc (.cells #[.bool false,.string (bs a.name),.slice a1 a.terms.length c1,.slice none 0 0] 87)) (.slice a1 a.terms.length c1) a.terms:=
   Kind.E8 (Kind.aH hV (fun k hk hB=>⟨by have:(w.alloc _).heap.size≤k:=hB;simp at this;exact this,by omega⟩)) hTa (by omega)
  have HV1:=hide hV1;have hs1:(w1.alloc (.cells #[.bool false,.string (bs a.name),.slice a1 a.terms.length c1,.slice none 0 0] 87)).heap.size=w1.heap.size+1:=by simp
  clear hx hT hR hE HA HW hV hTa hV1;rw[hno]
  go_wp2_with fail
  refine HTk.out.mono ?_;rintro e w2 ⟨rfl,hR2,hT2⟩
  replace hr1:=hT2.row hr1 (by omega)
  replace hr2:=hT2.row hr2 (by omega)
  have hlt2:w1.heap.size<w2.heap.size:=by have:=hT2.size;omega
  have HT2:=hide (HT1.out.trans hT2);have HV2:=hide (Kind.E8 HV1.out hT2 (by omega));have HR2:=hide hR2;cases ht:(took [58,45] r).1
  ·have HX2:Hid (rule l=dS [46] ⟨a,[]⟩ (took [58,45] r).2):=by show _=_;rw[HX.out,if_neg (by rw[ht];simp)]
   have T9:=hide (AQ p s _ [46] w2 hR2);clear ht hR2 hT2 HTk HT1 HX HV1
   go_wp2_with fail
   refine T9.out.mono ?_;rintro e w4 ⟨rfl,hR4,hT4⟩;obtain⟨z0,z1,z2,z3,f0,f1,f2,f3⟩:=Qt (hT4.row hr1 (by omega));obtain⟨y0,y1,y2,y3,_,_,_,_⟩:=Qt (hT4.row hr2 (by omega));have HV4:=hide (Kind.Hy (Kind.E8 HV2.out hT4 (by omega)));have HT4:=hide (HT2.out.trans hT4);have HR4:=hide hR4;have HM:=hide (EY p s _ ((took [46] (took [58,45] r).2).1) w4 hR4);clear hR4 hT4 T9 HV2 HT2 hr1 hr2;cases ht:(took [46] (took [58,45] r).2).1
   ·have HX4:Hid (rule l=.bad 2 (took [46] (took [58,45] r).2).2):=by show _=_;rw[HX2.out];unfold dS;rw[if_neg (by rw[ht];simp)]
    rw[ht] at HM;clear ht HX2
    go_wp2_with fail
    refine HM.out.mono ?_;rintro e w5 ⟨rfl,rfl⟩;exact⟨rfl,eO HX4.out HT4.out HR4.out⟩
   ·have HX4:Hid (rule l=.ok ⟨a,[]⟩ (took [46] (took [58,45] r).2).2):=by show _=_;rw[HX2.out];unfold dS;rw[if_pos ht]
    rw[ht] at HM;clear ht HX2
    go_wp2_with fail
    refine HM.out.mono ?_;rintro e w5 ⟨rfl,rfl⟩;go_wp2;refine bodyPost_ret (v:=.agg #[.bool false,.string (bs a.name),.slice a1 a.terms.length c1,.slice none 0 0]) (by simp[results,Tryz.results172,go_sem,z0,z1,z2,z3]) rfl ?_;exact Hz HX4.out hno HT4.out HR4.out HV4.out (bU.dw _ _ _ _) (by omega) hlt rfl
  ·have HX2:Hid (rule l=(body (took [58,45] r).2).next fun b r=>dS [46] ⟨a,b⟩ r):=by show _=_;rw[HX.out,if_pos ht]
   have HL:=hide (bodyC p s _ w2 hR2);clear ht hR2 hT2 HTk HT1 HX HV1
   go_wp2_with fail
   refine HL.out.mono ?_;intro e w3 hE3;obtain⟨hT3,⟨bd,r3,v3,hx3,rfl,hV3,hR3⟩|⟨n,r3,hx3,rfl,hR3⟩⟩:=hE3.split
   ·obtain⟨a3,c3,rfl⟩:=Kind.slice hV3
    replace hr1:=hT3.row hr1 (by omega)
    replace hr2:=hT3.row hr2 (by omega)
    have TW:=hT3.size;obtain⟨y0,y1,y2,y3,g0,g1,g2,g3⟩:=Qt hr2;have hTs:Tn (w1.heap.size) w3 (w3.setCell ⟨w1.heap.size,3,none⟩ (.slice a3 bd.length c3)):=(Tn.refl _ w3).moved _ _;have HTk:=hide (AQ p s r3 [46] _ (hR3.turned hTs (by omega) (by omega)));have HV3:Hid (bU.sl (From w2.heap.size) (w3.setCell ⟨w1.heap.size,3,none⟩ (.slice a3 bd.length c3)) (.slice a3 bd.length c3) bd):=Kind.fB hV3 hTs (by omega);have HB3:Hid (dL.sl (But (w.heap.size+1) w1.heap.size) (w3.setCell ⟨w1.heap.size,3,none⟩ (.slice a3 bd.length c3)) (.slice a1 a.terms.length c1) a.terms):=Kind.E8 (Kind.E8 HV2.out hT3 (by omega)) hTs (by omega);have HT3:=hide ((HT2.out.trans hT3).setCell (x:=⟨w1.heap.size,3,none⟩) (Or.inr (by show w.heap.size≤w1.heap.size;omega)) (.slice a3 bd.length c3));have HX3:Hid (rule l=dS [46] ⟨a,bd⟩ r3):=by show _=_;rw[HX2.out,hx3];rfl
    have hq1:=hTs.row hr1 (by omega);have q0:(w3.setCell ⟨w1.heap.size,3,none⟩ (.slice a3 bd.length c3)).cell? ⟨w1.heap.size,0,none⟩=some (.bool false):=by rw[World.cell?_setCell_other _ _ _ _ (by simp)];exact y0
    have q1:(w3.setCell ⟨w1.heap.size,3,none⟩ (.slice a3 bd.length c3)).cell? ⟨w1.heap.size,1,none⟩=some (.string (bs a.name)):=by rw[World.cell?_setCell_other _ _ _ _ (by simp)];exact y1
    have q2:(w3.setCell ⟨w1.heap.size,3,none⟩ (.slice a3 bd.length c3)).cell? ⟨w1.heap.size,2,none⟩=some (.slice a1 a.terms.length c1):=by rw[World.cell?_setCell_other _ _ _ _ (by simp)];exact y2
    have q3:(w3.setCell ⟨w1.heap.size,3,none⟩ (.slice a3 bd.length c3)).cell? ⟨w1.heap.size,3,none⟩=some (.slice a3 bd.length c3):=World.cell?_setCell_same _ _ _ y3;have Pj:w3.heap.size=(w3.setCell ⟨w1.heap.size,3,none⟩ (.slice a3 bd.length c3)).heap.size:=(size_setCell _ _ _).symm;clear hx3 hE3 hV3 hR3 HL HX2 hr1 hr2 HR2 hTs y0 y1 y2 HV2 HT2 hT3
    go_wp2_with fail
    refine HTk.out.mono ?_;rintro e w4 ⟨rfl,hR4,hT4⟩;obtain⟨z0,z1,z2,z3,f0,f1,f2,f3⟩:=Qt (hT4.row hq1 (by omega));rw[←hT4.cell (x:=⟨w1.heap.size,0,none⟩) (by show w1.heap.size<_;omega) (by show w1.heap.size≠p;omega)] at q0;rw[←hT4.cell (x:=⟨w1.heap.size,1,none⟩) (by show w1.heap.size<_;omega) (by show w1.heap.size≠p;omega)] at q1;rw[←hT4.cell (x:=⟨w1.heap.size,2,none⟩) (by show w1.heap.size<_;omega) (by show w1.heap.size≠p;omega)] at q2;rw[←hT4.cell (x:=⟨w1.heap.size,3,none⟩) (by show w1.heap.size<_;omega) (by show w1.heap.size≠p;omega)] at q3;have HV4:=hide (Kind.aH (Kind.fB HV3.out hT4 (by omega)) (fun k _ hB=>by have:w2.heap.size≤k:=hB;show w.heap.size+1≤k;omega:∀k,k<w4.heap.size→From w2.heap.size k→From (w.heap.size+1) k));have HB4:=hide (Kind.Hy (Kind.E8 HB3.out hT4 (by omega)));have HT4:=hide (HT3.out.trans hT4);have HR4:=hide hR4;have HM:=hide (EY p s _ ((took [46] r3).1) w4 hR4);clear hR4 hT4 HTk HV3 HT3 hq1 HB3 y3;cases ht:(took [46] r3).1
    ·have HX4:Hid (rule l=.bad 2 (took [46] r3).2):=by show _=_;rw[HX3.out];unfold dS;rw[if_neg (by rw[ht];simp)]
     rw[ht] at HM;clear ht HX3
     go_wp2_with fail
     refine HM.out.mono ?_;rintro e w5 ⟨rfl,rfl⟩;exact⟨rfl,eO HX4.out HT4.out HR4.out⟩
    ·have HX4:Hid (rule l=.ok ⟨a,bd⟩ (took [46] r3).2):=by show _=_;rw[HX3.out];unfold dS;rw[if_pos ht]
     rw[ht] at HM;clear ht HX3
     go_wp2_with fail
     refine HM.out.mono ?_;rintro e w5 ⟨rfl,rfl⟩;go_wp2;refine bodyPost_ret (v:=.agg #[.bool false,.string (bs a.name),.slice a1 a.terms.length c1,.slice a3 bd.length c3]) (by simp[results,Tryz.results172,go_sem,z0,z1,z2,z3]) rfl ?_;exact Hz HX4.out hno HT4.out HR4.out HB4.out HV4.out (by omega) hlt rfl
   ·have hx':rule l=.bad n r3:=by rw[HX2.out,hx3];rfl
    exact⟨rfl,eO hx' (HT2.out.trans hT3) hR3⟩
 ·have hx':rule l=.bad n r:=by unfold rule;rw[hx];rfl
  exact⟨rfl,eO hx' (HA.out.trans hT) hR⟩
theorem Kh:∃i,Tryz.prog.info? 87=some i∧i.zero=some (.agg #[.bool false,.string ByteArray.empty,.slice none 0 0,.slice none 0 0])∧i.size=4∧i.bytes=72:=⟨Tryz.t87,by kernel_rfl,by kernel_rfl,by kernel_rfl,by kernel_rfl⟩
theorem E9 {lo:Nat} {w:World} {v:Value} {l:List aA} (h:dU.own 87 lo w v l) {c:List Value} {x:aA} (hc:dU.is (fun k=>lo≤k∧v.ownBlock≠some k) w c x) (hl:l.length+1≤1099511627776) (hlo:lo≤w.heap.size):
  ∃v' w',(Builtin.append_ #[22,22] 22 #[v,.slice (some ⟨w.heap.size,0,none⟩) 1 1]).run Tryz.prog (w.alloc (.cells c.toArray 87))=.ok v' w'∧dU.own 87 lo w' v' (l++[x])∧(w.alloc (.cells c.toArray 87)).grownBy w' v.ownBlock:=by
 obtain⟨i,i1,i2,i3,i4⟩:=Kh;exact Kind.kE h Tryz.underlying22 i1 i2 i3 i4 rfl (by decide) (by decide) hc hl hlo
theorem MU {p:Nat} {s:ByteArray} {r:Bs} {w w2 w3 w4:World} {o:Obj} {row:Option Nat} (hg4:(w3.alloc o).grownBy w4 row) (hrow:∀k,row=some k→w.heap.size≤k) (hT2:Tn p w w2) (hT3:Tn p w2 w3) (hR3:Rd w3 p s r) (hlt:p<w.heap.size):Rd w4 p s r∧Tn p w w4:=by
 have hs2:=hT2.size;have hs3:=hT3.size;have hblk:∀k,k<w3.heap.size→k<w.heap.size→w4.heap[k]?=w3.heap[k]?:=fun k hk hk'=>
  (hg4.block k (by simp;omega) (fun e=>by have:=hrow k e.symm;omega)).trans (Below.heap_alloc w3 _ k hk)
 have hs4:w3.heap.size≤w4.heap.size:=by have:=hg4.size;simp at this;omega
 exact⟨⟨hR3.short,hR3.suf,by have:=hR3.lt;omega,hR3.ne,
   by rw[World.cell?_of_block (w:=w3) (a:=⟨p,0,none⟩) (hblk p hR3.lt hlt)];exact hR3.c0,by rw[World.cell?_of_block (w:=w3) (a:=⟨p,1,none⟩) (hblk p hR3.lt hlt)];exact hR3.c1,
   by rw[World.frozen?_of_block (w:=w3) (a:=⟨p,1,none⟩) (hblk p hR3.lt hlt)];exact hR3.fz,
   by obtain⟨m,e⟩:=hR3.g;exact⟨m,by rw[World.cell?_of_block (w:=w3) (a:=⟨1,0,none⟩) (hblk 1 (by have:=hR3.lt;have:=hR3.ne;omega) (by have:=hR3.ne;omega))];exact e⟩⟩,
  ⟨hg4.os.trans (hT3.os.trans hT2.os),hg4.tape.trans (hT3.tape.trans hT2.tape),hg4.output.trans (hT3.output.trans hT2.output),by omega,
   fun k hk ho=>(hblk k (by omega) hk).trans ((hT3.block k (by omega) ho).trans (hT2.block k hk ho))⟩⟩
theorem CB {n:Nat} {out:List aA} {l:Bs} (h:skip l≠[]):fV (n+1) out l=(rule (skip l)).next fun a r=>fV n (out++[a]) r:=by
 conv=>lhs;unfold fV
 exact if_neg h
set_option maxHeartbeats 2000000 in
theorem Pm (p:Nat) (s:ByteArray) (l:Bs) (w:World) (h:Rd w p s l):
  Calls Tryz.prog 96 #[.pointer (some ⟨p,0,none⟩)] w fun e w'=>oq p s w (dU.sl (From w.heap.size)) (fV 16 [] l) e w':=by
 have hlt:=h.lt;have H:=hide h;clear h
 go_enter Tryz.func96,Tryz.ntmps96
 go_wp2
 go_loopg [3] 16 (fun k o wr=>∃out l',k+out.length=16∧dU.own 87 w.heap.size wr o out∧fV k out l'=fV 16 [] l∧Rd wr p s l'∧Tn p w wr)
 case atStart=>exact⟨[],l,rfl,dU.iW _ _ _,rfl,H.out,Tn.refl _ _⟩
 case round=>
  obtain⟨out,l',hk,hO,hG,hR,hT⟩:=hrel;obtain⟨ao,co,rfl⟩:=Kind.bT hO;have HO:=hide hO;have HG:=hide hG;have HC:=hide (Lh p s l' wr hR);have HT:=hide hT;clear hO hG hR hT H
  go_wp2_with fail
  refine HC.out.mono ?_;rintro e w2 ⟨rfl,hR2,hT2⟩;have HR2:=hide hR2;have HT2:=hide (HT.out.trans hT2);have HO2:=hide (Kind.bR HO.out hT2 hlt)
  by_cases ht:skip l'=[]
  ·have HX:Hid (fV 16 [] l=.ok out []):=by show _=_;rw[←HG.out];exact BN _ _ ht
   rw[decide_eq_true ht];have HR3:Hid (Rd w2 p s []):=by show Rd _ _ _ _;rw[←ht];exact hR2
   clear ht hR2 hT2 HO HC HG HT HR2;go_wp2;go_ret;exact mK HX.out HT2.out (Kind.iV HO2.out (by omega)) HR3.out
  ·rw[decide_eq_false ht];cases gk with
   |zero=>
    have HX:Hid (fV 16 [] l=.bad 5 (skip l')):=by
     show _=_;rw[←HG.out];unfold fV;rw[if_neg ht]
    have hlen:((out.length:Int)==16)=true:=by rw[beq_iff_eq];omega
    have HF:=hide (Hu p s _ 5 w2 hR2);clear ht hR2 hT2 HO HC HG HT
    go_wp2_with fail
    refine HF.out.mono ?_;rintro e w3 ⟨rfl,rfl⟩;exact⟨rfl,eO HX.out HT2.out HR2.out⟩
   |succ n=>
    have HX:Hid (fV 16 [] l=(rule (skip l')).next fun a r=>fV n (out++[a]) r):=by
     show _=_;rw[←HG.out,CB ht]
    have hlen:((out.length:Int)==16)=false:=by rw[beq_eq_false_iff_ne];omega
    have HP:=hide (RS p s _ w2 hR2);clear ht hR2 hT2 HO HC HG HT
    go_wp2_with fail
    refine HP.out.mono ?_;intro e w3 hE;obtain⟨hT3,⟨a',r',v,hx,rfl,⟨c',rfl,hK3⟩,hR3⟩|⟨n',r',hx,rfl,hR3⟩⟩:=hE.split
    ·have hO3:=Kind.bR HO2.out hT3 hlt;have hsz2:=HT2.out.size;obtain⟨v',w4,hrun,hO4,hg4⟩:=E9 hO3 (dU.mono hK3 fun k hk hB=>⟨by have:w2.heap.size≤k:=hB;omega,fun e=>by
      have h1:=(Kind.eT HO2.out e).2;have h2:w2.heap.size≤k:=hB;omega⟩) (by omega) (by have:=hT3.size;omega)
     have HR4:=hide hrun;have HO4:=hide hO4;have HG4:Hid (fV n (out++[a']) r'=fV 16 [] l):=by show _=_;rw[HX.out,hx];rfl
     obtain⟨hRd,hT4⟩:=MU hg4 (fun k e=>(Kind.eT HO2.out e).1) HT2.out hT3 hR3 hlt;have HRd:=hide hRd;have HT4:=hide hT4;obtain⟨tv3,bv3,rfl,Pk,Ua⟩:=hK3;obtain⟨ta3,tc3,rfl⟩:=Kind.slice Pk;obtain⟨ba3,bc3,rfl⟩:=Kind.slice Ua;clear Pk Ua hx hE hT3 hR3 hrun hO4 hg4 hO3 hRd hT4 HR2
     go_wp2_with (at_builtin;refine wpList_append_run rfl (.tmp 14) (.tmp 17) 22 rfl _ _ _ _ rfl rfl HR4.out ?_)
     go_roundg n
     case measure=>exact Nat.lt_succ_self n
     case rel=>exact⟨out++[a'],r',by simp;omega,HO4.out,HG4.out,HRd.out,HT4.out⟩
    ·have hx':fV 16 [] l=.bad n' r':=by rw[HX.out,hx];rfl
     exact⟨rfl,eO hx' (HT2.out.trans hT3) hR3⟩
set_option maxHeartbeats 1000000 in
theorem H6 (p:Nat) (s:ByteArray) (l:Bs) (w:World) (h:Rd w p s l):
  Calls Tryz.prog 87 #[.pointer (some ⟨p,0,none⟩)] w fun e w'=>oq p s w (bU.sl (From w.heap.size)) (jX l) e w':=by
 have hlt:=h.lt;have HC:=hide (bodyC p s l w h);clear h
 go_enter Tryz.func87,Tryz.ntmps87
 go_wp2_with fail
 refine HC.out.mono ?_;intro e w1 hE;obtain⟨hT,⟨a,r,v,hx,rfl,hV,hR⟩|⟨n,r,hx,rfl,hR⟩⟩:=hE.split
 ·obtain⟨a1,c1,rfl⟩:=Kind.slice hV;have HX:Hid (jX l=if skip r=[] then .ok a [] else .bad 2 (skip r)):=by show _=_;unfold jX;rw[hx];rfl
  have HE:=hide (Lh p s r w1 hR);have HT:=hide hT;have HV:=hide hV;clear hx hT hV hR hE HC
  go_wp2_with fail
  refine HE.out.mono ?_;rintro e w2 ⟨rfl,hR2,hT2⟩;have HT2:=hide (HT.out.trans hT2);have HV2:=hide (Kind.fB HV.out hT2 hlt);have HM:=hide (EY p s _ (decide (skip r=[])) w2 hR2)
  by_cases ht:skip r=[]
  ·rw[decide_eq_true ht] at HM⊢;have HX2:Hid (jX l=.ok a []):=by show _=_;rw[HX.out,if_pos ht]
   have HR2:Hid (Rd w2 p s []):=by show Rd _ _ _ _;rw[←ht];exact hR2
   clear ht hR2 hT2 HX HE HV HT
   go_wp2_with fail
   refine HM.out.mono ?_;rintro e w3 ⟨rfl,rfl⟩;go_wp2;go_ret;exact mK HX2.out HT2.out HV2.out HR2.out
  ·rw[decide_eq_false ht] at HM⊢;have HX2:Hid (jX l=.bad 2 (skip r)):=by show _=_;rw[HX.out,if_neg ht]
   have HR2:=hide hR2;clear ht hR2 hT2 HX HE HV HT
   go_wp2_with fail
   refine HM.out.mono ?_;rintro e w3 ⟨rfl,rfl⟩;exact⟨rfl,eO HX2.out HT2.out HR2.out⟩
 ·have hx':jX l=.bad n r:=by unfold jX;rw[hx];rfl
  exact⟨rfl,eO hx' hT hR⟩
end Go.Proofs.YtafmbokfkbccaaaGreatDoor
namespace Go.Proofs.YtafmbokfkbccaaaGreatDoor
open Go.RowKit Go.Sort
theorem qY (v:Value) (w:World):(Instr.typeAssert (.iface 220 v) 20 220 false).run Tryz.prog w=.ok v w:=by
 kernel_rfl
theorem uJ (x y:Int) (w:World):(Instr.field 220 (.agg #[.int .i64 x,.int .i64 y]) 0).run Tryz.prog w=.ok (.agg #[.int .i64 x,.int .i64 y]) w:=by
 kernel_rfl
set_option maxRecDepth 100000 in
set_option maxHeartbeats 1000000 in
theorem H7 (b:Nat) (x y:Int) (u0 u1:Value) (w:World) (c0:w.cell? ⟨b,0,none⟩=some u0) (c1:w.cell? ⟨b,1,none⟩=some u1) (f0:w.frozen? ⟨b,0,none⟩=false) (f1:w.frozen? ⟨b,1,none⟩=false):
  CallsD Tryz.prog 170 #[.pointer (some ⟨b,0,none⟩)] (.panicking [{v:=.iface 220 (.agg #[.int .i64 x,.int .i64 y]),recovered:=false}]) w fun e u' w'=>
   e=.returned (.tuple #[])∧u'=.panicking [{v:=.iface 220 (.agg #[.int .i64 x,.int .i64 y]),recovered:=true}]∧w'=(w.setCell ⟨b,0,none⟩ (.int .i64 x)).setCell ⟨b,1,none⟩ (.int .i64 y):=by
 have hta:∀(v:Value) (w:World),(Instr.typeAssert (.iface 220 v) 20 220 false).run Tryz.prog w=.ok v w:=qY;have hfl:=uJ;refine callsD_of_wpS Tryz.func170 rfl fun c₀ cs hu=> ?_
 apply wpS_seq
 apply wpS_region
 simp[wpOpsS,go_sem,recoverD,hu,Tryz.ntmps170,Exit.thenS];refine wpS_of_wp ?_;go_wp2;simp[bodyPostS,results,Tryz.results170]
set_option maxRecDepth 100000 in
set_option maxHeartbeats 1000000 in
theorem Ki (b:Nat) (w:World):
  CallsD Tryz.prog 170 #[.pointer (some ⟨b,0,none⟩)] .returning w fun e u' w'=>e=.returned (.tuple #[])∧u'=.returning∧w'=w:=by
 refine callsD_of_wpS Tryz.func170 rfl fun c₀ cs hu=> ?_
 apply wpS_seq
 apply wpS_region
 simp[wpOpsS,go_sem,recoverD,hu,Tryz.ntmps170,Exit.thenS];refine wpS_of_wp ?_;go_wp2;cases c₀
 simp_all [bodyPostS,results,Tryz.results170]
def bB (s:Bs):List aA×Int×Nat:=
 if 3000<s.length then([],4,0) else match fV 16 [] s with
  | .ok out _=>(out,0,0)
  | .bad n r=>([],n,s.length-r.length)
set_option maxRecDepth 100000 in
set_option maxHeartbeats 2000000 in
theorem Kj (s:ByteArray) (w:World) (m:Int) (hm:w.cell? ⟨1,0,none⟩=some (.int .i64 m)):
  Calls Tryz.prog 95 #[.string s,.func (.func 96) #[] #[]] w fun e w'=>∃v,e=.returned (.tuple #[v,.agg #[.int .i64 (bB (raw s)).2.1,.int .i64 (bB (raw s)).2.2]])∧dU.sl (From w.heap.size) w' v (bB (raw s)).1∧Below w.heap.size w w':=by
 have hmf:∀(fn:Fn) (first cap:Array Value) (w:World),(Instr.makeFunc fn first cap).run Tryz.prog w=.ok (.func fn first cap) w:=fun _ _ _ _=>rfl
 by_cases hs:3000<s.size
 ·have HX:Hid (bB (raw s)=([],4,0)):=by show _=_;unfold bB;rw[if_pos (by rw[aP];exact hs)]
  have hs':(3000:Int)<s.size:=by omega
  go_enter_defers Tryz.func95,Tryz.ntmps95
  go_wp2;simp only[bodyPostD];refine⟨.tuple #[.slice none 0 0,.agg #[.int .i64 4,.int .i64 0]],by simp[results,Tryz.results95,go_sem],?_⟩;exact⟨_,by rw[HX.out];rfl,by rw[HX.out];exact dU.dw _ _ _ _,((Later.refl w).alloc _).below⟩
 ·have h0:1<w.heap.size:=World.block_lt_of_cell? w _ hm;have hRd:Rd ((w.alloc (.cells #[.int .i64 0,.int .i64 0] 75)).alloc (.cells #[.string s,.int .i64 0] 224)) (w.heap.size+1) s (raw s):=by
   have hr:((w.alloc (.cells #[.int .i64 0,.int .i64 0] 75)).alloc (.cells #[.string s,.int .i64 0] 224)).heap[w.heap.size+1]?=some (.cells #[.string s,.int .i64 0] 224 (0,0)):=by
    have:=heap_alloc_new (w.alloc (.cells #[.int .i64 0,.int .i64 0] 75)) (.cells #[.string s,.int .i64 0] 224);simpa using this
   refine⟨by omega,List.suffix_refl _,by simp,by omega,by rw[cell_of_row _ _ _ _ _ _ hr];rfl,?_,bM hr,m,?_⟩
   ·rw[cell_of_row _ _ _ _ _ _ hr,pos,aP,Nat.sub_self];rfl
   ·rw[(((Later.refl w).alloc (.cells #[.int .i64 0,.int .i64 0] 75)).alloc (.cells #[.string s,.int .i64 0] 224)).cell (p:=⟨1,0,none⟩) h0];exact hm
  have HC:=hide (Pm _ s _ _ hRd);have hs':¬(3000:Int)<s.size:=by omega
  go_enter_defers Tryz.func95,Tryz.ntmps95
  go_wp2_with fail
  refine HC.out.mono ?_;intro e w1 hE;have hBB:Below w.heap.size w ((w.alloc (.cells #[.int .i64 0,.int .i64 0] 75)).alloc (.cells #[.string s,.int .i64 0] 224)):=(((Later.refl w).alloc _).alloc _).below;have hfr:((w.alloc (.cells #[.int .i64 0,.int .i64 0] 75)).alloc (.cells #[.string s,.int .i64 0] 224)).heap[w.heap.size]?=some (.cells #[.int .i64 0,.int .i64 0] 75 (0,0)):=by
   rw[Below.heap_alloc _ _ _ (by simp)];exact heap_alloc_new w _
  have hsz:((w.alloc (.cells #[.int .i64 0,.int .i64 0] 75)).alloc (.cells #[.string s,.int .i64 0] 224)).heap.size=w.heap.size+2:=by simp
  rw[hsz] at hE;generalize(w.alloc (.cells #[.int .i64 0,.int .i64 0] 75)).alloc (.cells #[.string s,.int .i64 0] 224)=wb at*;obtain⟨hT,⟨a,r,v,hx,rfl,hV,hR⟩|⟨n,r,hx,rfl,hR⟩⟩:=hE.split
  all_goals
   have hrow:=hT.row hfr (b:=w.heap.size) (by omega);have z0:w1.cell? ⟨w.heap.size,0,none⟩=some (.int .i64 0):=by rw[cell_of_row _ _ _ _ _ _ hrow];rfl
   have z1:w1.cell? ⟨w.heap.size,1,none⟩=some (.int .i64 0):=by rw[cell_of_row _ _ _ _ _ _ hrow];rfl
   have f0:=bM (j:=0) hrow;have f1:=bM (j:=1) hrow;have hB1:Below w.heap.size w w1:=⟨hT.os.trans hBB.os,hT.tape.trans hBB.tape,hT.output.trans hBB.output,by have:=hT.size;omega,fun k hk=>(hT.block k (by omega) (by omega)).trans (hBB.block k hk)⟩
  ·have HX:Hid (bB (raw s)=(a,0,0)):=by show _=_;unfold bB;rw[if_neg (by rw[aP];exact hs),hx]
   have HV:=hide hV;have HB:=hide hB1;obtain⟨av,cv,rfl⟩:=Kind.slice hV;clear hE hT hx hR hBB hfr hRd HC hB1 hV hrow;go_wp2;refine leaves_cons (f:=170) (args:=#[.pointer (some ⟨w.heap.size,0,none⟩)]) (by simp) (by simp[go_sem]) ?_;refine(Ki _ _).mono ?_;rintro e u' w'' ⟨rfl,rfl,rfl⟩;refine⟨.tuple #[.slice av a.length cv,.agg #[.int .i64 0,.int .i64 0]],by simp[results,Tryz.results95,go_sem,z0,z1],_,by rw[HX.out];rfl,?_,?_⟩
   ·rw[HX.out];exact Kind.aH (Kind.fB HV.out (((Tn.refl w.heap.size w1).moved _ _).moved _ _) (by omega)) (fun k _ hB=>by have:w.heap.size+2≤k:=hB;show w.heap.size≤k;omega)
   ·exact(HB.out.setCell (Nat.le_refl _) _).setCell (Nat.le_refl _) _
  ·have HX:Hid (bB (raw s)=([],n,pos s r)):=by show _=_;unfold bB;rw[if_neg (by rw[aP];exact hs),hx,aP];rfl
   refine leaves_cons (f:=170) (args:=#[.pointer (some ⟨w.heap.size,0,none⟩)]) (by simp) (by simp[go_sem]) ?_;refine(H7 _ _ _ _ _ _ z0 z1 f0 f1).mono ?_;rintro e u' w'' ⟨rfl,rfl,rfl⟩;refine⟨.tuple #[.slice none 0 0,.agg #[.int .i64 n,.int .i64 (pos s r)]],by simp[results,Tryz.results95,go_sem,z0,z1],_,by rw[HX.out],?_,?_⟩
   ·rw[HX.out];exact dU.dw _ _ _ _
   ·exact(hB1.setCell (Nat.le_refl _) _).setCell (Nat.le_refl _) _
set_option maxHeartbeats 1000000 in
theorem Pn (s:ByteArray) (w:World) (m:Int) (hm:w.cell? ⟨1,0,none⟩=some (.int .i64 m)):
  Calls Tryz.prog 46 #[.string s] w fun e w'=>∃v,e=.returned (.tuple #[v,.agg #[.int .i64 (bB (raw s)).2.1,.int .i64 (bB (raw s)).2.2]])∧dU.sl (From w.heap.size) w' v (bB (raw s)).1∧Below w.heap.size w w':=by
 have hb0:=World.block_lt_of_cell? w _ hm;have hA:=((Later.refl w).alloc (.cells #[.int .i64 0,.int .i64 0] 75));have HC:=hide (Kj s (w.alloc (.cells #[.int .i64 0,.int .i64 0] 75)) m (by rw[hA.cell (p:=⟨1,0,none⟩) hb0];exact hm))
 go_enter Tryz.func46,Tryz.ntmps46
 go_wp2_with fail
 refine HC.out.mono ?_;rintro e w1 ⟨v,rfl,hV,hB⟩;have hrow:w1.heap[w.heap.size]?=some (.cells #[.int .i64 0,.int .i64 0] 75 (0,0)):=by
  rw[hB.block _ (by simp)];exact heap_alloc_new w _
 have z0:w1.cell? ⟨w.heap.size,0,none⟩=some (.int .i64 0):=by rw[cell_of_row _ _ _ _ _ _ hrow];rfl
 have z1:w1.cell? ⟨w.heap.size,1,none⟩=some (.int .i64 0):=by rw[cell_of_row _ _ _ _ _ _ hrow];rfl
 have f0:=bM (j:=0) hrow;have f1:=bM (j:=1) hrow;have HB:Hid (Below w.heap.size w w1):=⟨hB.os.trans hA.below.os,hB.tape.trans hA.below.tape,hB.output.trans hA.below.output,by have:=hB.size;simp at this;omega,fun k hk=>(hB.block k (by simp;omega)).trans (hA.below.block k hk)⟩;have HV:=hide hV;obtain⟨av,cv,rfl⟩:=Kind.slice hV;clear hV hB hA HC hrow hm;generalize hy:bB (raw s)=y at HV⊢;have HY:=hide hy;clear hy;obtain⟨out,n,k⟩:=y;dsimp only at HV⊢;go_wp2;refine bodyPost_ret (v:=.tuple #[.slice av out.length cv,.agg #[.int .i64 n,.int .i64 k]]) (by simp[results,Tryz.results46,go_sem,z0,z1]) rfl ?_;refine⟨.slice av out.length cv,by rw[HY.out],?_,(HB.out.setCell (Nat.le_refl _) _).setCell (Nat.le_refl _) _⟩;rw[HY.out];exact Kind.aH (Kind.fB HV.out (((Tn.refl w.heap.size w1).moved _ _).moved _ _) (by simp)) (fun k _ hB=>by have:(w.alloc _).heap.size≤k:=hB;simp at this;show w.heap.size≤k;omega)
end Go.Proofs.YtafmbokfkbccaaaGreatDoor
namespace Go.Proofs.YtafmbokfkbccaaaGreatDoor
open Go.RowKit Go.Sort
set_option maxRecDepth 100000 in
set_option maxHeartbeats 1000000 in
theorem H8 (b:Nat) (x y:Int) (u0 u1:Value) (w:World) (c0:w.cell? ⟨b,0,none⟩=some u0) (c1:w.cell? ⟨b,1,none⟩=some u1) (f0:w.frozen? ⟨b,0,none⟩=false) (f1:w.frozen? ⟨b,1,none⟩=false):
  CallsD Tryz.prog 152 #[.pointer (some ⟨b,0,none⟩)] (.panicking [{v:=.iface 220 (.agg #[.int .i64 x,.int .i64 y]),recovered:=false}]) w fun e u' w'=>
   e=.returned (.tuple #[])∧u'=.panicking [{v:=.iface 220 (.agg #[.int .i64 x,.int .i64 y]),recovered:=true}]∧w'=(w.setCell ⟨b,0,none⟩ (.int .i64 x)).setCell ⟨b,1,none⟩ (.int .i64 y):=by
 have hta:∀(v:Value) (w:World),(Instr.typeAssert (.iface 220 v) 20 220 false).run Tryz.prog w=.ok v w:=qY;have hfl:=uJ;refine callsD_of_wpS Tryz.func152 rfl fun c₀ cs hu=> ?_
 apply wpS_seq
 apply wpS_region
 simp[wpOpsS,go_sem,recoverD,hu,Tryz.ntmps152,Exit.thenS];refine wpS_of_wp ?_;go_wp2;simp[bodyPostS,results,Tryz.results152]
set_option maxRecDepth 100000 in
set_option maxHeartbeats 1000000 in
theorem Kk (b:Nat) (w:World):
  CallsD Tryz.prog 152 #[.pointer (some ⟨b,0,none⟩)] .returning w fun e u' w'=>e=.returned (.tuple #[])∧u'=.returning∧w'=w:=by
 refine callsD_of_wpS Tryz.func152 rfl fun c₀ cs hu=> ?_
 apply wpS_seq
 apply wpS_region
 simp[wpOpsS,go_sem,recoverD,hu,Tryz.ntmps152,Exit.thenS];refine wpS_of_wp ?_;go_wp2;cases c₀
 simp_all [bodyPostS,results,Tryz.results152]
def bJ (s:Bs):List aF×Int×Nat:=
 if 3000<s.length then([],4,0) else match jX s with
  | .ok out _=>(out,0,0)
  | .bad n r=>([],n,s.length-r.length)
set_option maxRecDepth 100000 in
set_option maxHeartbeats 2000000 in
theorem Kl (s:ByteArray) (w:World) (m:Int) (hm:w.cell? ⟨1,0,none⟩=some (.int .i64 m)):
  Calls Tryz.prog 86 #[.string s,.func (.func 87) #[] #[]] w fun e w'=>∃v,e=.returned (.tuple #[v,.agg #[.int .i64 (bJ (raw s)).2.1,.int .i64 (bJ (raw s)).2.2]])∧bU.sl (From w.heap.size) w' v (bJ (raw s)).1∧Below w.heap.size w w':=by
 have hmf:∀(fn:Fn) (first cap:Array Value) (w:World),(Instr.makeFunc fn first cap).run Tryz.prog w=.ok (.func fn first cap) w:=fun _ _ _ _=>rfl
 by_cases hs:3000<s.size
 ·have HX:Hid (bJ (raw s)=([],4,0)):=by show _=_;unfold bJ;rw[if_pos (by rw[aP];exact hs)]
  have hs':(3000:Int)<s.size:=by omega
  go_enter_defers Tryz.func86,Tryz.ntmps86
  go_wp2;simp only[bodyPostD];refine⟨.tuple #[.slice none 0 0,.agg #[.int .i64 4,.int .i64 0]],by simp[results,Tryz.results86,go_sem],?_⟩;exact⟨_,by rw[HX.out];rfl,by rw[HX.out];exact bU.dw _ _ _ _,((Later.refl w).alloc _).below⟩
 ·have h0:1<w.heap.size:=World.block_lt_of_cell? w _ hm;have hRd:Rd ((w.alloc (.cells #[.int .i64 0,.int .i64 0] 75)).alloc (.cells #[.string s,.int .i64 0] 224)) (w.heap.size+1) s (raw s):=by
   have hr:((w.alloc (.cells #[.int .i64 0,.int .i64 0] 75)).alloc (.cells #[.string s,.int .i64 0] 224)).heap[w.heap.size+1]?=some (.cells #[.string s,.int .i64 0] 224 (0,0)):=by
    have:=heap_alloc_new (w.alloc (.cells #[.int .i64 0,.int .i64 0] 75)) (.cells #[.string s,.int .i64 0] 224);simpa using this
   refine⟨by omega,List.suffix_refl _,by simp,by omega,by rw[cell_of_row _ _ _ _ _ _ hr];rfl,?_,bM hr,m,?_⟩
   ·rw[cell_of_row _ _ _ _ _ _ hr,pos,aP,Nat.sub_self];rfl
   ·rw[(((Later.refl w).alloc (.cells #[.int .i64 0,.int .i64 0] 75)).alloc (.cells #[.string s,.int .i64 0] 224)).cell (p:=⟨1,0,none⟩) h0];exact hm
  have HC:=hide (H6 _ s _ _ hRd);have hs':¬(3000:Int)<s.size:=by omega
  go_enter_defers Tryz.func86,Tryz.ntmps86
  go_wp2_with fail
  refine HC.out.mono ?_;intro e w1 hE;have hBB:Below w.heap.size w ((w.alloc (.cells #[.int .i64 0,.int .i64 0] 75)).alloc (.cells #[.string s,.int .i64 0] 224)):=(((Later.refl w).alloc _).alloc _).below;have hfr:((w.alloc (.cells #[.int .i64 0,.int .i64 0] 75)).alloc (.cells #[.string s,.int .i64 0] 224)).heap[w.heap.size]?=some (.cells #[.int .i64 0,.int .i64 0] 75 (0,0)):=by
   rw[Below.heap_alloc _ _ _ (by simp)];exact heap_alloc_new w _
  have hsz:((w.alloc (.cells #[.int .i64 0,.int .i64 0] 75)).alloc (.cells #[.string s,.int .i64 0] 224)).heap.size=w.heap.size+2:=by simp
  rw[hsz] at hE;generalize(w.alloc (.cells #[.int .i64 0,.int .i64 0] 75)).alloc (.cells #[.string s,.int .i64 0] 224)=wb at*;obtain⟨hT,⟨a,r,v,hx,rfl,hV,hR⟩|⟨n,r,hx,rfl,hR⟩⟩:=hE.split
  all_goals
   have hrow:=hT.row hfr (b:=w.heap.size) (by omega);have z0:w1.cell? ⟨w.heap.size,0,none⟩=some (.int .i64 0):=by rw[cell_of_row _ _ _ _ _ _ hrow];rfl
   have z1:w1.cell? ⟨w.heap.size,1,none⟩=some (.int .i64 0):=by rw[cell_of_row _ _ _ _ _ _ hrow];rfl
   have f0:=bM (j:=0) hrow;have f1:=bM (j:=1) hrow;have hB1:Below w.heap.size w w1:=⟨hT.os.trans hBB.os,hT.tape.trans hBB.tape,hT.output.trans hBB.output,by have:=hT.size;omega,fun k hk=>(hT.block k (by omega) (by omega)).trans (hBB.block k hk)⟩
  ·have HX:Hid (bJ (raw s)=(a,0,0)):=by show _=_;unfold bJ;rw[if_neg (by rw[aP];exact hs),hx]
   have HV:=hide hV;have HB:=hide hB1;obtain⟨av,cv,rfl⟩:=Kind.slice hV;clear hE hT hx hR hBB hfr hRd HC hB1 hV hrow;go_wp2;refine leaves_cons (f:=152) (args:=#[.pointer (some ⟨w.heap.size,0,none⟩)]) (by simp) (by simp[go_sem]) ?_;refine(Kk _ _).mono ?_;rintro e u' w'' ⟨rfl,rfl,rfl⟩;refine⟨.tuple #[.slice av a.length cv,.agg #[.int .i64 0,.int .i64 0]],by simp[results,Tryz.results86,go_sem,z0,z1],_,by rw[HX.out];rfl,?_,?_⟩
   ·rw[HX.out];exact Kind.aH (Kind.fB HV.out (((Tn.refl w.heap.size w1).moved _ _).moved _ _) (by omega)) (fun k _ hB=>by have:w.heap.size+2≤k:=hB;show w.heap.size≤k;omega)
   ·exact(HB.out.setCell (Nat.le_refl _) _).setCell (Nat.le_refl _) _
  ·have HX:Hid (bJ (raw s)=([],n,pos s r)):=by show _=_;unfold bJ;rw[if_neg (by rw[aP];exact hs),hx,aP];rfl
   refine leaves_cons (f:=152) (args:=#[.pointer (some ⟨w.heap.size,0,none⟩)]) (by simp) (by simp[go_sem]) ?_;refine(H8 _ _ _ _ _ _ z0 z1 f0 f1).mono ?_;rintro e u' w'' ⟨rfl,rfl,rfl⟩;refine⟨.tuple #[.slice none 0 0,.agg #[.int .i64 n,.int .i64 (pos s r)]],by simp[results,Tryz.results86,go_sem,z0,z1],_,by rw[HX.out],?_,?_⟩
   ·rw[HX.out];exact bU.dw _ _ _ _
   ·exact(hB1.setCell (Nat.le_refl _) _).setCell (Nat.le_refl _) _
set_option maxHeartbeats 1000000 in
theorem Po (s:ByteArray) (w:World) (m:Int) (hm:w.cell? ⟨1,0,none⟩=some (.int .i64 m)):
  Calls Tryz.prog 39 #[.string s] w fun e w'=>∃v,e=.returned (.tuple #[v,.agg #[.int .i64 (bJ (raw s)).2.1,.int .i64 (bJ (raw s)).2.2]])∧bU.sl (From w.heap.size) w' v (bJ (raw s)).1∧Below w.heap.size w w':=by
 have hb0:=World.block_lt_of_cell? w _ hm;have hA:=((Later.refl w).alloc (.cells #[.int .i64 0,.int .i64 0] 75));have HC:=hide (Kl s (w.alloc (.cells #[.int .i64 0,.int .i64 0] 75)) m (by rw[hA.cell (p:=⟨1,0,none⟩) hb0];exact hm))
 go_enter Tryz.func39,Tryz.ntmps39
 go_wp2_with fail
 refine HC.out.mono ?_;rintro e w1 ⟨v,rfl,hV,hB⟩;have hrow:w1.heap[w.heap.size]?=some (.cells #[.int .i64 0,.int .i64 0] 75 (0,0)):=by
  rw[hB.block _ (by simp)];exact heap_alloc_new w _
 have z0:w1.cell? ⟨w.heap.size,0,none⟩=some (.int .i64 0):=by rw[cell_of_row _ _ _ _ _ _ hrow];rfl
 have z1:w1.cell? ⟨w.heap.size,1,none⟩=some (.int .i64 0):=by rw[cell_of_row _ _ _ _ _ _ hrow];rfl
 have f0:=bM (j:=0) hrow;have f1:=bM (j:=1) hrow;have HB:Hid (Below w.heap.size w w1):=⟨hB.os.trans hA.below.os,hB.tape.trans hA.below.tape,hB.output.trans hA.below.output,by have:=hB.size;simp at this;omega,fun k hk=>(hB.block k (by simp;omega)).trans (hA.below.block k hk)⟩;have HV:=hide hV;obtain⟨av,cv,rfl⟩:=Kind.slice hV;clear hV hB hA HC hrow hm;generalize hy:bJ (raw s)=y at HV⊢;have HY:=hide hy;clear hy;obtain⟨out,n,k⟩:=y;dsimp only at HV⊢;go_wp2;refine bodyPost_ret (v:=.tuple #[.slice av out.length cv,.agg #[.int .i64 n,.int .i64 k]]) (by simp[results,Tryz.results39,go_sem,z0,z1]) rfl ?_;refine⟨.slice av out.length cv,by rw[HY.out],?_,(HB.out.setCell (Nat.le_refl _) _).setCell (Nat.le_refl _) _⟩;rw[HY.out];exact Kind.aH (Kind.fB HV.out (((Tn.refl w.heap.size w1).moved _ _).moved _ _) (by simp)) (fun k _ hB=>by have:(w.alloc _).heap.size≤k:=hB;simp at this;show w.heap.size≤k;omega)
end Go.Proofs.YtafmbokfkbccaaaGreatDoor
namespace Go.Proofs.YtafmbokfkbccaaaGreatDoor
open Go.RowKit Go.Sort
def bC (B:Nat→Prop) (w:World) (v:Value) (l:List au):Prop:=
 l.length≤1000∧∃a cap,v=.slice a l.length cap∧(l≠[]→∃b off,a=some ⟨b,off,none⟩∧B b∧b<w.heap.size∧∀i,i<l.length→w.cell? ⟨b,off+i*2,none⟩=some (.string (l.getD i aC).1)∧∃s,w.cell? ⟨b,off+i*2+1,none⟩=some s∧Strs w s (l.getD i aC).2∧∀k,(l.getD i aC).2≠[]→s.ownBlock=some k→B k)
theorem bC.nil (B:Nat→Prop) (w:World):bC B w (.slice none 0 0) []:=⟨by simp,none,0,rfl,fun h=>absurd rfl h⟩
theorem bC.facts {B:Nat→Prop} {w:World} {v:Value} {l:List au} (h:bC B w v l):Facts w v l:=by
 obtain⟨h0,a,cap,rfl,h1⟩:=h;refine⟨by omega,a,cap,rfl,fun hl=> ?_⟩;obtain⟨b,off,rfl,_,hb,hc⟩:=h1 hl;refine⟨b,off,rfl,hb,fun i hi=> ?_⟩;obtain⟨c1,s,c2,c3,_⟩:=hc i hi;exact⟨c1,s,c2,c3⟩
theorem bC.kept {B:Nat→Prop} {w w':World} {v:Value} {l:List au} (h:bC B w v l) (hs:w.heap.size≤w'.heap.size) (hk:∀k,k<w.heap.size→B k→w'.heap[k]?=w.heap[k]?):bC B w' v l:=by
 obtain⟨h0,a,cap,rfl,h1⟩:=h;refine⟨h0,a,cap,rfl,fun hl=> ?_⟩;obtain⟨b,off,rfl,hB,hb,hc⟩:=h1 hl;refine⟨b,off,rfl,hB,Nat.lt_of_lt_of_le hb hs,fun i hi=> ?_⟩;obtain⟨c1,s,c2,c3,c4⟩:=hc i hi;have e:=hk b hb hB;refine⟨by rw[World.cell?_of_block (w:=w) e];exact c1,s,by rw[World.cell?_of_block (w:=w) e];exact c2,?_,c4⟩
 by_cases hne:(l.getD i aC).2=[]
 ·rw[hne] at c3⊢;exact c3.nil
 ·exact c3.kept hs fun k e'=>hk k (c3.block_lt hne k e') (c4 k hne e')
theorem bC.below {B:Nat→Prop} {w w':World} {v:Value} {l:List au} (h:bC B w v l) (k:Below w.heap.size w w'):bC B w' v l:=h.kept k.size fun i hi _=>k.block i hi
theorem bC.mono {B B':Nat→Prop} {w:World} {v:Value} {l:List au} (h:bC B w v l) (hm:∀k,k<w.heap.size→B k→B' k):bC B' w v l:=by
 obtain⟨h0,a,cap,rfl,h1⟩:=h;refine⟨h0,a,cap,rfl,fun hl=> ?_⟩;obtain⟨b,off,rfl,hB,hb,hc⟩:=h1 hl;refine⟨b,off,rfl,hm b hb hB,hb,fun i hi=> ?_⟩;obtain⟨c1,s,c2,c3,c4⟩:=hc i hi;exact⟨c1,s,c2,c3,fun k hne e=>hm k (c3.block_lt hne k e) (c4 k hne e)⟩
theorem bY.Li {base:Nat} {w:World} {v:Value} {l:List au} (h:bY w base v l) (hl:l.length≤1000):bC (From base) w v l:=by
 obtain⟨xs,ho,hx⟩:=h;rcases ho.2 with⟨rfl,e⟩|⟨g,cap,cur,rfl,hbg,hg,_,_,hcs,htake⟩
 ·have:l=[]:=List.eq_nil_of_length_eq_zero e;subst this;exact bC.nil _ _
 ·refine⟨hl,_,cap,rfl,fun _=>⟨g,0,rfl,hbg,(Array.getElem?_eq_some_iff.1 hg).1,fun i hi=> ?_⟩⟩;obtain⟨c1,s,c2,c3,c4⟩:=hx i hi;have cellOf:∀j u,xs[j]?=some u→w.cell? ⟨g,0+j,none⟩=some u:=fun j u hu=>by
   have:=ho.cells (g:=g) rfl j u hu
   rwa [Addr.add_lit] at this
  exact⟨cellOf _ _ c1,s,by rw[Nat.add_assoc];exact cellOf _ _ c2,c3,fun k _ e=>(c4 k e).1⟩
end Go.Proofs.YtafmbokfkbccaaaGreatDoor
