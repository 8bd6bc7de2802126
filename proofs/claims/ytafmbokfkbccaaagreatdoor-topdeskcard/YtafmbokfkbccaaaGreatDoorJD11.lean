import Derived.Test.YtafmbokfkbccaaaGreatDoorJD10
import Derived.Shelf.SlSortCmp.WholeK
import Derived.Shelf.SlSortCmp.Whole1
import Derived.Shelf.SlSortCmp.NoneTotal
import Derived.Test.YtafmbokfkbccaaaGreatDoorJD6
import Derived.Test.YtafmbokfkbccaaaGreatDoorJD4
namespace Go.Proofs.YtafmbokfkbccaaaGreatDoor
open Go.RowKit Go.Sort Go.Shelf
set_option maxHeartbeats 1000000 in
theorem orC (c cp:Nat) (x y:Int) (w:World) (h0:w.cell? ⟨c,0,none⟩=some (.int .i64 x)) (h1:w.cell? ⟨c,1,none⟩=some (.int .i64 y)):
  Calls Tryz.prog 270 #[.slice (some ⟨c,0,none⟩) 2 cp] w fun e w'=>e=.returned (.int .i64 (if x≠0 then x else y))∧w'=w:=by
 by_cases hx:x=0
 ·subst hx
  by_cases hy:y=0
  ·subst hy
   go_enter Tryz.func270,Tryz.ntmps270
   go_wp2;refine wp_loop_rounds 3 ?_;rw[rounds_succ];go_wp2;rw[rounds_succ];go_wp2;rw[rounds_succ];go_wp2;go_ret;exact⟨rfl,rfl⟩
  ·have hq:(y != 0)=true:=by simpa using hy
   go_enter Tryz.func270,Tryz.ntmps270
   go_wp2;refine wp_loop_rounds 3 ?_;rw[rounds_succ];go_wp2;rw[rounds_succ];go_wp2;go_ret;exact⟨rfl,rfl⟩
 ·have hq:(x != 0)=true:=by simpa using hx
  rw[if_pos hx];clear hx
  go_enter Tryz.func270,Tryz.ntmps270
  go_wp2;refine wp_loop_rounds 3 ?_;rw[rounds_succ];go_wp2;go_ret;exact⟨rfl,rfl⟩
set_option maxRecDepth 100000 in
set_option maxHeartbeats 2000000 in
theorem compareB (a b:BindD) (w:World):Calls Tryz.prog 221 #[.agg (encB a).toArray,.agg (encB b).toArray] w fun e w'=>e=.returned (.int .i64 (cmpB a b))∧Later w w':=by
 obtain⟨a1,a2⟩:=a;obtain⟨b1,b2⟩:=b;show Calls _ _ #[.agg #[.string a1,.string a2],.agg #[.string b1,.string b2]] _ fun e w'=>e=.returned (.int .i64 (if cmpS a1 b1≠0 then cmpS a1 b1 else cmpS a2 b2))∧_;generalize hwb:(w.alloc (.cells #[.string a1,.string a2] 190)).alloc (.cells #[.string b1,.string b2] 190)=wb;have HWB:=hide hwb;have hLb:Later w wb:=by rw[←hwb];exact(by repeat (first|exact Later.refl _|assumption|refine Later.drewN ?_ _|refine Later.drew ?_|refine Later.alloc ?_ _|refine Later.grow ?_ _))
 have z0:wb.cell? ⟨w.heap.size,0,none⟩=some (.string a1):=by rw[←hwb];simp
 have z1:wb.cell? ⟨w.heap.size,1,none⟩=some (.string a2):=by rw[←hwb];simp
 have z2:wb.cell? ⟨w.heap.size+1,0,none⟩=some (.string b1):=by rw[←hwb];simp
 have z3:wb.cell? ⟨w.heap.size+1,1,none⟩=some (.string b2):=by rw[←hwb];simp
 have hsb:wb.heap.size=w.heap.size+2:=by rw[←hwb];simp
 clear hwb;obtain⟨r,hr⟩:∃r,r=if cmpS a1 b1≠0 then cmpS a1 b1 else cmpS a2 b2:=⟨_,rfl⟩;have HOr:Hid (∀(c:Nat) (w:World),w.cell? ⟨c,0,none⟩=some (.int .i64 (cmpS a1 b1))→w.cell? ⟨c,1,none⟩=some (.int .i64 (cmpS a2 b2))→Calls Tryz.prog 270 #[.slice (some ⟨c,0,none⟩) 2 2] w fun e w'=>e=.returned (.int .i64 r)∧w'=w):=fun c w h0 h1=>by
  rw[hr];exact orC c 2 _ _ w h0 h1
 rw[←hr];clear hr
 go_enter Tryz.func221,Tryz.ntmps221
 go_wp2;rw[HWB.out];have cell:∀w',Later wb w'→w'.cell? ⟨w.heap.size,0,none⟩=some (.string a1)∧w'.cell? ⟨w.heap.size,1,none⟩=some (.string a2)∧w'.cell? ⟨w.heap.size+1,0,none⟩=some (.string b1)∧w'.cell? ⟨w.heap.size+1,1,none⟩=some (.string b2):=fun w' hL=>
  ⟨by rw[hL.cell (by show w.heap.size<_;omega)];exact z0,by rw[hL.cell (by show w.heap.size<_;omega)];exact z1,by rw[hL.cell (by show w.heap.size+1<_;omega)];exact z2,by rw[hL.cell (by show w.heap.size+1<_;omega)];exact z3⟩
 have CELL:=hide cell;clear cell z0 z1 z2 z3 hsb;refine wp_region_held_drew (S:=fun w'=>Later wb w') (by kernel_rfl) (Later.refl _).drew (fun hHeld=> ?_);refine take_yes (i:=0) (d:=some 5) (v:= ?_) rfl rfl hHeld ?_ ?_;rotate_left;focus intro w hSw;(try dsimp only at hSw);go_simp;try with_reducible rfl
 simp only[aput,aset,aze,asu];refine take_yes (i:=1) (d:=some 6) (v:= ?_) rfl rfl hHeld ?_ ?_;rotate_left;focus intro w hSw;(try dsimp only at hSw);obtain⟨q0,q1,q2,q3⟩:=CELL.out w hSw;go_simp;try with_reducible rfl
 simp only[aput,aset,aze,asu];refine take_yes (i:=2) (d:=some 7) (v:= ?_) rfl rfl hHeld ?_ ?_;rotate_left;focus intro w hSw;(try dsimp only at hSw);go_simp;try with_reducible rfl
 simp only[aput,aset,aze,asu];refine take_yes (i:=3) (d:=some 8) (v:= ?_) rfl rfl hHeld ?_ ?_;rotate_left;focus intro w hSw;(try dsimp only at hSw);obtain⟨q0,q1,q2,q3⟩:=CELL.out w hSw;go_simp;try with_reducible rfl
 simp only[aput,aset,aze,asu];refine take_yes (i:=5) (d:=some 10) (v:= ?_) rfl rfl hHeld ?_ ?_;rotate_left;focus intro w hSw;(try dsimp only at hSw);go_simp;try with_reducible rfl
 simp only[aput,aset,aze,asu];refine take_yes (i:=6) (d:=some 11) (v:= ?_) rfl rfl hHeld ?_ ?_;rotate_left;focus intro w hSw;(try dsimp only at hSw);obtain⟨q0,q1,q2,q3⟩:=CELL.out w hSw;go_simp;try with_reducible rfl
 simp only[aput,aset,aze,asu];refine take_yes (i:=7) (d:=some 12) (v:= ?_) rfl rfl hHeld ?_ ?_;rotate_left;focus intro w hSw;(try dsimp only at hSw);go_simp;try with_reducible rfl
 simp only[aput,aset,aze,asu];refine take_yes (i:=8) (d:=some 13) (v:= ?_) rfl rfl hHeld ?_ ?_;rotate_left;focus intro w hSw;(try dsimp only at hSw);obtain⟨q0,q1,q2,q3⟩:=CELL.out w hSw;go_simp;try with_reducible rfl
 simp only[aput,aset,aze,asu];refine wpAnyH_ready (rs:=[4]) (by kernel_rfl) (by simp) ?_;refine AllReadyH.cons rfl (fun K hK=> ?_) AllReadyH.nil;go_simp;refine(compareS _ _ _).mono ?_;rintro e u1 ⟨rfl,rfl⟩;dsimp only;refine hK.out _ _ hHeld (fun hHeld=> ?_);clear hK K;refine wpAnyH_ready (rs:=[9]) (by kernel_rfl) (by simp) ?_;refine AllReadyH.cons rfl (fun K hK=> ?_) AllReadyH.nil;go_simp;refine(compareS _ _ _).mono ?_;rintro e u2 ⟨rfl,rfl⟩;dsimp only;refine hK.out _ _ hHeld (fun hHeld=> ?_);clear hK K;refine wpAnyH_ready (rs:=[10]) (by kernel_rfl) (by simp) ?_;refine AllReadyH.cons rfl (fun K hK=> ?_) AllReadyH.nil;go_simp;refine hK.out _ _ (hHeld.alloc _) (fun hHeld=> ?_);clear hK K;refine wpAnyH_ready (rs:=[11]) (by kernel_rfl) (by simp) ?_;refine AllReadyH.cons rfl (fun K hK=> ?_) AllReadyH.nil;go_simp;refine(HOr.out _ _ (by simp) (by simp)).mono ?_;rintro e u3 ⟨rfl,rfl⟩;dsimp only;refine hK.out _ _ hHeld (fun hHeld=> ?_);clear hK K;refine take_yes (i:=12) (d:=some 4) (v:= ?_) rfl rfl hHeld ?_ ?_;rotate_left;focus intro w hSw;(try dsimp only at hSw);go_simp;try with_reducible rfl
 simp only[aput,aset,aze,asu];refine wpAnyH_done (by kernel_rfl) ?_ _;go_wp2;go_ret;exact⟨rfl,hLb.trans hHeld⟩
set_option maxRecDepth 100000 in
set_option maxHeartbeats 2000000 in
theorem compareBs (u v:Value) (l m:List BindD) (w:World) (hu:bindK.sl Anyw w u l) (hv:bindK.sl Anyw w v m):
  Calls Tryz.prog 224 #[u,v,.func (.func 221) #[] #[]] w fun e w'=>e=.returned (.int .i64 (cmpBs l m))∧Later w w':=by
 obtain⟨a,cap,rfl⟩:=Kind.slice hu;obtain⟨a',cap',rfl⟩:=Kind.slice hv;have hl:=hu.1.1;have hm:=hv.1.1;have HU:=hide hu;have HV:=hide hv;clear hu hv
 go_enter Tryz.func224,Tryz.ntmps224
 go_wp2
 go_loopg [13] l.length (fun g i wr=>∃j:Nat,j+g=l.length∧i=.int .i64 j∧Hid (cmpBs l m=cmpBs (l.drop j) (m.drop j))∧Hid (j≤m.length)∧Hid (Later w wr))
 case atStart=>exact⟨0,by omega,rfl,(rfl:_=_),(Nat.zero_le _:_≤_),Later.refl _⟩
 case round=>
  obtain⟨j,hj,rfl,HE,HJ,HL⟩:=hrel;have hjm:=HJ.out
  by_cases hlt:j<l.length
  ·obtain⟨x,hx⟩:∃x,l[j]?=some x:=⟨_,List.getElem?_eq_getElem hlt⟩;obtain⟨b1,o1,_,rfl,hb1,rfl,hc⟩:=Kind.sl_at HU.out hx;have d0:wr.cell? ⟨b1,o1+j*2,none⟩=some (.string x.1):=by rw[HL.out.cell hb1];exact hc 0 _ rfl
   have d1:wr.cell? ⟨b1,o1+j*2+1,none⟩=some (.string x.2):=by rw[HL.out.cell hb1];exact hc 1 _ rfl
   have hbr:b1<wr.heap.size:=Nat.lt_of_lt_of_le hb1 HL.out.size;have hdx:l.drop j=x::l.drop (j+1):=by
    obtain⟨h1,e1⟩:=List.getElem?_eq_some_iff.1 hx;rw[List.drop_eq_getElem_cons h1,e1]
   by_cases hlm:j<m.length
   ·obtain⟨y,hy⟩:∃y,m[j]?=some y:=⟨_,List.getElem?_eq_getElem hlm⟩;obtain⟨b2,o2,_,rfl,hb2,rfl,hc2⟩:=Kind.sl_at HV.out hy;have hLa:=HL.out.alloc (.cells #[.string x.1,.string x.2] 190);have d2:(wr.alloc (.cells #[.string x.1,.string x.2] 190)).cell? ⟨b2,o2+j*2,none⟩=some (.string y.1):=by rw[hLa.cell hb2];exact hc2 0 _ rfl
    have d3:(wr.alloc (.cells #[.string x.1,.string x.2] 190)).cell? ⟨b2,o2+j*2+1,none⟩=some (.string y.2):=by rw[hLa.cell hb2];exact hc2 1 _ rfl
    have hbr2:b2<wr.heap.size:=Nat.lt_of_lt_of_le hb2 HL.out.size;have hdy:m.drop j=y::m.drop (j+1):=by
     obtain⟨h1,e1⟩:=List.getElem?_eq_some_iff.1 hy;rw[List.drop_eq_getElem_cons h1,e1]
    have HC:Hid (Calls Tryz.prog 221 #[.agg #[.string x.1,.string x.2],.agg #[.string y.1,.string y.2]] ((wr.alloc (.cells #[.string x.1,.string x.2] 190)).alloc (.cells #[.string y.1,.string y.2] 190)) fun e w2=>e=.returned (.int .i64 (cmpB x y))∧Hid (Later w w2)):=
     (compareB x y _).mono fun e w2 ⟨he,h2⟩=>⟨he,(hLa.alloc _).trans h2⟩
    have E:cmpBs l m=if cmpB x y≠0 then cmpB x y else cmpBs (l.drop (j+1)) (m.drop (j+1)):=by rw[HE.out,hdx,hdy];rfl
    have hjz:¬((m.length:Int)≤(j:Int)):=by omega
    clear hc hc2 hx hy hdx hdy hLa;obtain⟨x1,x2⟩:=x;obtain⟨y1,y2⟩:=y;dsimp only at*;generalize cmpB (x1,x2) (y1,y2)=r at*
    by_cases h0:r=0
    ·subst h0;have HE1:Hid (cmpBs l m=cmpBs (l.drop (j+1)) (m.drop (j+1))):=by show _=_;rw[E];rfl
     clear E HE
     go_wp2_with (go_at_call 221;refine HC.out.mono ?_;rintro e w2 ⟨rfl,hL2⟩)
     go_roundg (l.length- (j+1))
     case measure=>omega
     case rel=>exact⟨j+1,by omega,by go_num,HE1,(by omega:j+1≤m.length),hL2⟩
    ·have HE1:Hid (cmpBs l m=r):=by show _=_;rw[E,if_pos h0]
     have hq:(r != 0)=true:=by simpa using h0
     clear E HE h0
     go_wp2_with (go_at_call 221;refine HC.out.mono ?_;rintro e w2 ⟨rfl,hL2⟩)
     go_ret;exact⟨by rw[HE1.out];rfl,hL2.out⟩
   ·have HE1:Hid (cmpBs l m=1):=by show _=_;rw[HE.out,hdx,List.drop_eq_nil_of_le (by omega:m.length≤j)];rfl
    have hjz:(m.length:Int)≤(j:Int):=by omega
    clear hc hx hdx HE;obtain⟨x1,x2⟩:=x;dsimp only at*;go_wp2;go_ret;exact⟨by rw[HE1.out];rfl,HL.out.alloc _⟩
  ·have e:j=l.length:=by omega
   by_cases hlm:l.length<m.length
   ·have HE1:Hid (cmpBs l m= -1):=by
     show _=_;rw[HE.out,List.drop_eq_nil_of_le (by omega),List.drop_eq_getElem_cons (by omega:j<m.length)];rfl
    have hz:(l.length:Int)<(m.length:Int):=by omega
    clear HE;go_wp2;go_ret;exact⟨by rw[HE1.out];rfl,HL.out⟩
   ·have HE1:Hid (cmpBs l m=0):=by
     show _=_;rw[HE.out,List.drop_eq_nil_of_le (by omega),List.drop_eq_nil_of_le (by omega)];rfl
    have hz:¬((l.length:Int)<(m.length:Int)):=by omega
    clear HE;go_wp2;go_ret;exact⟨by rw[HE1.out];rfl,HL.out⟩
theorem enters_compare:∀args w,(callFunc 221 args).run Tryz.prog w=.ok (.enter 221 args) w:=enters_of Tryz.func221 (by kernel_rfl) rfl
theorem enters_risen1:∀args w,(callFunc 223 args).run Tryz.prog w=.ok (.enter 223 args) w:=enters_of Tryz.func223 (by kernel_rfl) rfl
set_option maxHeartbeats 400000 in
theorem risen1 (u v:Value) (l m:List BindD) (w:World) (hu:bindK.sl Anyw w u l) (hv:bindK.sl Anyw w v m):
  Calls Tryz.prog 223 #[u,v] w fun e w'=>e=.returned (.int .i64 (cmpBs l m))∧Later w w':=by
 have HC:=hide (compareBs u v l m w hu hv);obtain⟨a,cap,rfl⟩:=Kind.slice hu;obtain⟨a',cap',rfl⟩:=Kind.slice hv;clear hu hv;generalize cmpBs l m=r at*
 go_enter Tryz.func223,Tryz.ntmps223
 go_wp2_with (go_at_call 224;refine HC.out.mono ?_;rintro e w2 ⟨rfl,hL2⟩;replace hL2:=hide hL2)
 go_ret;exact⟨rfl,unhide hL2⟩
end Go.Proofs.YtafmbokfkbccaaaGreatDoor
namespace Go.Proofs.YtafmbokfkbccaaaGreatDoor
open Go.RowKit Go.Sort Go.Shelf
theorem swo_of {α:Type} {c:α→α→Int} (h:Three c):SWO (ltOf c) where
 irrefl x:=by unfold ltOf;rw[h.refl];rfl
 trans x y z h1 h2:=by
  unfold ltOf at*;rw[decide_eq_true_eq] at*;exact h.trans _ _ _ h1 h2
 ntrans x y z h1 h2:=by
  unfold ltOf at*;rw[decide_eq_false_iff_not] at*;have e1:=h.swap x y;have e2:=h.swap y z;have e3:=h.swap x z;have:=h.le_trans (a:=z) (b:=y) (d:=x) (by omega) (by omega);omega
theorem perm_in {α:Type} {inst:Inhabited α} {d d':Array α} (h:PermIn 0 d.size d d'):d'.toList.Perm d.toList:=by
 obtain⟨h1,_,h3⟩:=h;have e:d'.extract 0 d.size=d':=by rw[←h1];simp
 rw[e] at h3;simpa using h3
theorem sorted_in {α:Type} {inst:Inhabited α} {c:α→α→Int} (hc:Three c) {n:Nat} {d:Array α} (hn:d.size=n) (h:SortedIn (ltOf c) 0 n d):d.toList.Pairwise fun a b=>c a b≤0:=by
 rw[List.pairwise_iff_getElem];intro i j hi hj hij;have:=h i j (Nat.zero_le _) hij (by simp at hj;omega);have e1:d[i]! =d.toList[i]:=by rw[getElem!_pos d i (by simpa using hi)];simp
 have e2:d[j]! =d.toList[j]:=by rw[getElem!_pos d j (by simpa using hj)];simp
 rw[e1,e2] at this;unfold ltOf at this;rw[decide_eq_false_iff_not] at this;have:=hc.swap d.toList[i] d.toList[j];omega
instance:Inhabited BindD:=⟨(ByteArray.empty,ByteArray.empty)⟩
theorem isAggB:∀w,(isAgg 190).run Tryz.prog w=.ok true w:=Tryz.isAgg190
theorem sizeOfB:∀w,(Go.sizeOf 190).run Tryz.prog w=.ok 2 w:=Tryz.sizeOf190
structure OnlyB (p:Option Nat) (w w':World):Prop where
 os:w'.os=w.os
 tape:w'.tape=w.tape
 output:w'.output=w.output
 drawn:w.drawn≤w'.drawn
 size:w.heap.size≤w'.heap.size
 block:∀k,k<w.heap.size→p≠some k→w'.heap[k]?=w.heap[k]?
theorem OnlyB.refl (p:Option Nat) (w:World):OnlyB p w w:=⟨rfl,rfl,rfl,Nat.le_refl _,Nat.le_refl _,fun _ _ _=>rfl⟩
theorem OnlyB.of_later {p:Option Nat} {w w':World} (h:Later w w'):OnlyB p w w':=⟨h.below.os,h.below.tape,h.below.output,h.drawn,h.size,fun _ hk _=>h.block hk⟩
theorem OnlyB.trans {p:Option Nat} {a b c:World} (h:OnlyB p a b) (k:OnlyB p b c):OnlyB p a c:=
 ⟨k.os.trans h.os,k.tape.trans h.tape,k.output.trans h.output,Nat.le_trans h.drawn k.drawn,Nat.le_trans h.size k.size,fun i hi ho=>(k.block i (Nat.lt_of_lt_of_le hi h.size) ho).trans (h.block i hi ho)⟩
theorem OnlyB.later {p:Option Nat} {w0 a b:World} (h:OnlyB p a b) (h0:Later w0 a) (hp:∀k,p=some k→w0.heap.size≤k):Later w0 b:=
 Later.of_below ⟨h.os.trans h0.below.os,h.tape.trans h0.below.tape,h.output.trans h0.below.output,Nat.le_trans h0.size h.size,fun k hk=>
  (h.block k (Nat.lt_of_lt_of_le hk h0.size) (fun e=>by have:=hp k e;omega)).trans (h0.block hk)⟩ (Nat.le_trans h0.drawn h.drawn)
theorem frozen_rw {w:World} {g:Nat} (j:Nat) {cs:Array Value} {t:TypeId} (h:w.heap[g]?=some (.cells cs t (0,0))):w.frozen? ⟨g,j,none⟩=false:=by
 simp[World.frozen?,h]
theorem holdsB {ty:TypeId} {lo g n cap:Nat} {w:World} {l:List BindD} (h:bindK.own ty lo w (.slice (some ⟨g,0,none⟩) n cap) l):HoldsK encB 2 w g 0 l.toArray:=by
 have ho:=own_cells h;rcases ho.2 with⟨e,_⟩|⟨g',cap',cur,e,hb,hg,_⟩
 ·cases e
 ·simp only[Value.slice.injEq,Option.some.injEq,Addr.mk.injEq] at e;obtain⟨⟨rfl,_⟩,rfl,rfl⟩:=e;intro j hj;rw[size_flatK] at hj;simp only[List.size_toArray] at hj;have hj2:j/2<l.length:=by omega
  rw[get_flatK _ _ _ _ (by simpa using hj)];refine⟨?_,frozen_rw _ hg⟩;have e1:=cellsB_at l (j/2) (j%2) (Nat.mod_lt _ (by omega));rw[List.getElem?_eq_getElem hj2,show j/2*2+j%2=j by omega] at e1;have e2:l.toArray[j/2]! =l[j/2]:=by rw[getElem!_pos _ _ (by simpa using hj2)];simp
  rw[e2];have hm:j%2<2:=Nat.mod_lt _ (by omega);have e3:(encB l[j/2])[j%2]?=some ((encB l[j/2])[j%2]!):=by
   rw[getElem!_pos _ _ (by simpa[encB] using hm),List.getElem?_eq_getElem]
  have:=ho.cells (g:=g) rfl j _ (e1.trans e3)
  rwa [Addr.add_lit] at this
theorem sortBC (lo:Nat) (v:Value) (l:List BindD) (w:World) (h:bindK.own 190 lo w v l) (hl:l.length≤4398046511104):
  Calls Tryz.prog 220 #[v,.func (.func 221) #[] #[]] w fun e w'=>e=.returned (.tuple #[])∧bindK.sl (ofBlock v) w' v (sortB l)∧OnlyB v.ownBlock w w':=by
 have hlen:(sortB l).length=l.length:=(sortBy_perm l).length_eq;rcases(own_cells h).2 with⟨rfl,e⟩|⟨g,cap,cur,rfl,hbg,hg,hnc,_⟩
 ·have:l=[]:=List.eq_nil_of_length_eq_zero e;subst this;have e0:sortB []=[]:=List.eq_nil_of_length_eq_zero hlen;exact(AnyF.slices_SortFunc_none Tryz.sortBinds none 0 _ w).mono fun e w' ⟨he,hw⟩=>⟨he,by rw[e0];exact bindK.sl_nil _ _ _ _,by rw[hw];exact OnlyB.refl _ _⟩
 ·have hgl:g<w.heap.size:=(Array.getElem?_eq_some_iff.1 hg).1;have hc:=AnyQ.slices_SortFunc Tryz.sortBinds 2 isAggB sizeOfB encB (fun _=>rfl) (fun x v hv=>by
   simp[encB] at hv;rcases hv with rfl|rfl <;> rfl) cmpB (swo_of three_cmpB) 221 #[] g 0 cap l.toArray w enters_compare (fun m os dk hd x y=>(compareB x y _).mono fun e w' ⟨he,hw⟩=>⟨he,hw⟩) (holdsB h) hgl (by simp;omega)
  have hsz:l.toArray.size=l.length:=by simp
  rw[hsz] at hc;refine hc.mono ?_;rintro e w' ⟨he,d',n,os,hp,hs,rfl⟩;have hd':d'.size=l.toArray.size:=hp.1;have hkk:∀k,k<w.heap.size→k≠g→(sortWorldK encB 2 w g 0 n d' os).heap[k]?=w.heap[k]?:=fun k hk hne=>by
   unfold sortWorldK;rw[heap_grow_old _ _ (by rw[size_putRowK];exact hk)];simp only[putRowK,putRow,mapBlock];rw[Array.getElem?_modify,if_neg (fun e=>hne e.symm)]
   rfl
  have hss:w.heap.size≤(sortWorldK encB 2 w g 0 n d' os).heap.size:=by
   unfold sortWorldK;rw[size_grow,size_putRowK];exact Nat.le_add_right _ _
  have hpl:d'.toList.Perm l:=by have:=perm_in (d:=l.toArray) (d':=d') (by rw[hsz];exact hp);simpa using this
  have e:sortB l=d'.toList:=(sortBy_of three_cmpB hpl (sorted_in three_cmpB (by rw[hd',hsz]) hs)).symm;refine⟨he,?_,⟨rfl,rfl,rfl,Nat.le_add_right _ _,hss,fun k hk ho=>hkk k hk (fun e=>ho (by rw[e];rfl))⟩⟩;have H:=holdsK_sortWorldK_c encB 2 w g 0 l.toArray d' n os (holdsB h) hgl hd';refine⟨⟨by rw[hlen];omega,hnc⟩,some ⟨g,0,none⟩,cap,by rw[hlen],fun _=>⟨g,0,rfl,rfl,Nat.lt_of_lt_of_le hgl hss,fun i x hi=>⟨_,rfl,fun j u hu=> ?_⟩⟩⟩;rw[e] at hi;have hil:i<d'.size:=by simpa using(List.getElem?_eq_some_iff.1 hi).1
  have hj:j<2:=(List.getElem?_eq_some_iff.1 hu).1;have hcell:=(H.cell (i:=i) (c:=j) hil hj).1;have e2:d'[i]! =x:=by
   rw[getElem!_pos d' i hil];have:=(List.getElem?_eq_some_iff.1 hi).2;simpa using this
  rw[e2] at hcell;have e3:(encB x)[j]! =u:=by
   rw[getElem!_pos _ _ (by simpa[encB] using hj)];exact(List.getElem?_eq_some_iff.1 hu).2
  rw[e3] at hcell;exact hcell
structure ElemL (w:World) (blk lo:Nat):Type where
 a:Option Addr
 cap:Nat
 l:List BindD
 h:bindK.sl (fun k=>k≠blk∧lo≤k) w (.slice a l.length cap) l
def ElemL.enc {w:World} {blk lo:Nat} (x:ElemL w blk lo):Value:=.slice x.a x.l.length x.cap
def ElemL.no (w:World) (blk lo:Nat):ElemL w blk lo:=⟨none,0,[],bindK.sl_nil _ _ _ _⟩
def ElemL.cmp {w:World} {blk lo:Nat} (x y:ElemL w blk lo):Int:=cmpBs x.l y.l
theorem ElemL.swo (w:World) (blk lo:Nat):SWO (ltOf (ElemL.cmp (w:=w) (blk:=blk) (lo:=lo))) where
 irrefl x:=(swo_of three_cmpBs).irrefl x.l
 trans x y z:=(swo_of three_cmpBs).trans x.l y.l z.l
 ntrans x y z:=(swo_of three_cmpBs).ntrans x.l y.l z.l
theorem heap_sortL {α:Type} (inst:Inhabited α) (enc:α→Value) (w:World) (blk off m:Nat) (d:Array α) (os:Array Obj) (k:Nat) (hk:k<w.heap.size) (hne:k≠blk):(@sortWorld α inst enc w blk off m d os).heap[k]?=w.heap[k]?:=by
 unfold sortWorld;rw[heap_grow_old _ _ (by simp only[putRow,mapBlock,Array.size_modify];exact hk)];simp only[putRow,mapBlock];rw[Array.getElem?_modify,if_neg (fun e=>hne e.symm)]
 rfl
theorem size_sortL {α:Type} (inst:Inhabited α) (enc:α→Value) (w:World) (blk off m:Nat) (d:Array α) (os:Array Obj):w.heap.size≤(@sortWorld α inst enc w blk off m d os).heap.size:=by
 unfold sortWorld;rw[size_grow];simp only[putRow,mapBlock,Array.size_modify];exact Nat.le_add_right _ _
theorem ElemL.sl {w W:World} {blk lo:Nat} (x:ElemL w blk lo) (hs:w.heap.size≤W.heap.size) (hk:∀k,k<w.heap.size→k≠blk→W.heap[k]?=w.heap[k]?):bindK.sl (fun k=>k≠blk∧lo≤k) W x.enc x.l:=
 Kind.sl_kept x.h hs fun k hk' hB=>hk k hk' hB.1
theorem lays1 (w:World) (blk lo off size:Nat): @CmpLays1 (ElemL w blk lo) ⟨ElemL.no w blk lo⟩ Tryz.prog 223 #[] ElemL.enc ElemL.cmp blk off size w:=by
 intro m os dk hd x y;have hs:=size_sortL ⟨ElemL.no w blk lo⟩ ElemL.enc w blk off m dk os;have hk:=heap_sortL ⟨ElemL.no w blk lo⟩ ElemL.enc w blk off m dk os;exact(risen1 _ _ x.l y.l _ (Kind.sl_any (x.sl hs hk)) (Kind.sl_any (y.sl hs hk))).mono fun e w' ⟨he,hw⟩=>⟨he,hw⟩
theorem sortLC (lo:Nat) (tyS:TypeId) (v:Value) (ps:List (Value×List BindD)) (w:World) (ho:w.ownsRow lo tyS 1 v ps.length (ps.map (·.1))) (hp:∀p∈ps,bindK.sl (fun k=>v.ownBlock≠some k∧lo≤k) w p.1 p.2) (hl:ps.length≤4398046511104):
  Calls Tryz.prog 222 #[v,.func (.func 223) #[] #[]] w fun e w'=>e=.returned (.tuple #[])∧listK.sl (From lo) w' v (sortBy cmpBs (ps.map (·.2)))∧OnlyB v.ownBlock w w':=by
 have hlen:(sortBy cmpBs (ps.map (·.2))).length=ps.length:=by rw[(sortBy_perm (c:=cmpBs) (ps.map (·.2))).length_eq];simp
 rcases ho.2 with⟨rfl,e⟩|⟨g,cap,cur,rfl,hbg,hg,hnc,_⟩
 ·have:ps=[]:=List.eq_nil_of_length_eq_zero e;subst this;have e0:sortBy cmpBs (([]:List (Value×List BindD)).map (·.2))=[]:=List.eq_nil_of_length_eq_zero hlen;exact(AnyF.slices_SortFunc_none {Tryz.sortLists with} none 0 _ w).mono fun e w' ⟨he,hw⟩=>⟨he,by rw[e0];exact listK.sl_nil _ _ _ _,by rw[hw];exact OnlyB.refl _ _⟩
 ·have hgl:g<w.heap.size:=(Array.getElem?_eq_some_iff.1 hg).1;have hel:∀i:Fin ps.length,∃x:ElemL w g lo,x.l=(ps[i.1]'i.2).2∧x.enc=(ps[i.1]'i.2).1:=fun i=>by
   have h1:=hp _ (List.getElem_mem i.2);obtain⟨a,c,e⟩:=Kind.slice h1;refine⟨⟨a,c,(ps[i.1]'i.2).2,?_⟩,rfl,e.symm⟩;rw[←e];exact Kind.sl_mono h1 fun k _ hk=>⟨fun e'=>hk.1 (by rw[e'];rfl),hk.2⟩
  letI:Inhabited (ElemL w g lo):=⟨ElemL.no w g lo⟩
  obtain⟨d,hd⟩:∃d:Array (ElemL w g lo),d=Array.ofFn fun i=>Classical.choose (hel i):=⟨_,rfl⟩;have hds:d.size=ps.length:=by rw[hd];simp
  have hdl:d.toList.map ElemL.l=ps.map (·.2):=by
   apply List.ext_getElem
   ·simp[hds]
   ·intro i h1 h2;have hi:i<ps.length:=by simpa using h2
    simp only[List.getElem_map,Array.getElem_toList];have:=(Classical.choose_spec (hel ⟨i,hi⟩)).1;rw[←this]
    congr 1
    simp only[hd,Array.getElem_ofFn]
  have hH:Holds ElemL.enc w g 0 d:=by
   intro j hj;have hj':j<ps.length:=by omega
   refine⟨?_,frozen_rw _ hg⟩;have e1:d[j]! =Classical.choose (hel ⟨j,hj'⟩):=by
    rw[getElem!_pos d j hj];simp only[hd,Array.getElem_ofFn]
   rw[e1,(Classical.choose_spec (hel ⟨j,hj'⟩)).2];have:=ho.cells (g:=g) rfl j _ (by rw[List.getElem?_map,List.getElem?_eq_getElem hj'];rfl)
   rwa [Addr.add_lit] at this
  have hc:=Any.slices_SortFunc Tryz.sortLists ElemL.enc (fun _=>rfl) ElemL.cmp (ElemL.swo w g lo) 223 #[] g 0 cap d w enters_risen1 (lays1 w g lo 0 d.size) hH hgl (by omega);rw[hds] at hc;refine hc.mono ?_;rintro e w' ⟨he,d',n,os,hpm,hs,rfl⟩;have hd':d'.size=d.size:=hpm.1;have hkk:=heap_sortL ⟨ElemL.no w g lo⟩ ElemL.enc w g 0 n d' os;have hss:=size_sortL ⟨ElemL.no w g lo⟩ ElemL.enc w g 0 n d' os;have hpl:(d'.toList.map ElemL.l).Perm (ps.map (·.2)):=by
   rw[←hdl];exact(perm_in (d:=d) (d':=d') (by rw[hds];exact hpm)).map _
  have hso:(d'.toList.map ElemL.l).Pairwise fun a b=>cmpBs a b≤0:=by
   rw[List.pairwise_map,List.pairwise_iff_getElem];intro i j hi hj hij;have:=hs i j (Nat.zero_le _) hij (by simp at hj;omega);have e1:d'[i]! =d'.toList[i]:=by rw[getElem!_pos d' i (by simpa using hi)];simp
   have e2:d'[j]! =d'.toList[j]:=by rw[getElem!_pos d' j (by simpa using hj)];simp
   rw[e1,e2] at this;unfold ltOf ElemL.cmp at this;rw[decide_eq_false_iff_not] at this;have:=three_cmpBs.swap d'.toList[i].l d'.toList[j].l;omega
  have e:sortBy cmpBs (ps.map (·.2))=d'.toList.map ElemL.l:=(sortBy_of three_cmpBs hpl hso).symm;refine⟨he,?_,⟨rfl,rfl,rfl,Nat.le_add_right _ _,hss,fun k hk ho=>hkk k hk (fun e=>ho (by rw[e];rfl))⟩⟩;have H:=holds_sortWorld ElemL.enc w g 0 n d d' os hgl hH hd';refine⟨⟨by rw[hlen];omega,hnc⟩,some ⟨g,0,none⟩,cap,by rw[hlen],fun _=>⟨g,0,rfl,hbg,Nat.lt_of_lt_of_le hgl hss,fun i x hi=> ?_⟩⟩;rw[e,List.getElem?_map] at hi;cases hx:d'.toList[i]? with
  |none=>rw[hx] at hi;cases hi
  |some y=>
   rw[hx] at hi;cases hi;have hil:i<d'.size:=by simpa using(List.getElem?_eq_some_iff.1 hx).1
   refine⟨[y.enc],⟨y.enc,rfl,Kind.sl_mono (y.sl hss hkk) fun _ _ hB=>hB.2⟩,fun j u hu=> ?_⟩;cases j with
   |succ j=>simp at hu
   |zero=>
    simp at hu;subst hu;have hcell:=(H i hil).1;have e2:d'[i]! =y:=by
     rw[getElem!_pos d' i hil];have:=(List.getElem?_eq_some_iff.1 hx).2;simpa using this
    rw[e2] at hcell;show World.cell? _ ⟨g,0+i*1+0,none⟩=_;rw[Nat.mul_one,Nat.add_zero];exact hcell
end Go.Proofs.YtafmbokfkbccaaaGreatDoor
namespace Go.Proofs.YtafmbokfkbccaaaGreatDoor
open Go.RowKit Go.Sort
theorem infoBinds:∃i,Tryz.prog.info? 158=some i∧i.zero=some (.slice none 0 0)∧i.size=1∧i.bytes=24:=⟨Tryz.t158,by kernel_rfl,by kernel_rfl,by kernel_rfl,by kernel_rfl⟩
theorem own_none {ty:TypeId} {lo:Nat} {w:World} {v:Value} {l:List BindD} (h:bindK.own ty lo w v l):v.oneCell'=true:=by
 obtain⟨a,c,rfl⟩:=Kind.own_slice h;rfl
theorem Lists.more {lo:Nat} {w:World} {v u:Value} {ps:List (Value×List BindD)} {l:List BindD} (h:Lists 158 190 lo w v ps) (hu:bindK.own 190 lo w u l) (ha:∀p∈ps,apart p.1 u) (hv:apart u v) (hl:ps.length+1≤1099511627776) (hlo:lo≤w.heap.size):
  ∃v' w',(Builtin.append_ #[62,62] 62 #[v,.slice (some ⟨w.heap.size,0,none⟩) 1 1]).run Tryz.prog (w.alloc (.cells #[u] 158))=.ok v' w'∧Lists 158 190 lo w' v' (ps++[(u,l)])∧(w.alloc (.cells #[u] 158)).grownBy w' v.ownBlock∧w.drawn≤w'.drawn:=by
 obtain⟨i,i1,i2,i3,i4⟩:=infoBinds;obtain⟨ho,hp,hpw⟩:=h;have hnews:∀j x,([u]:List Value)[j]?=some x→(w.alloc (.cells #[u] 158)).cell? ((⟨w.heap.size,0,none⟩:Addr).add j)=some x:=by
  intro j x hx;rw[Addr.add_lit,Nat.zero_add,cell_of_row _ w.heap.size j #[u] 158 (0,0) (heap_alloc_new w _)];simpa using hx
 obtain⟨v',w',hrun,r1,r2,r3,r4⟩:=append_own (P:=Tryz.prog) (w.alloc (.cells #[u] 158)) lo 62 62 158 i _ 1 24 Tryz.underlying62 i1 i2 i3 i4 rfl (by omega) v ps.length (ps.map (·.1)) (ho.alloc _) ⟨w.heap.size,0,none⟩ 1 1 [u] rfl hnews
  (by intro x hx;simp at hx;subst hx;exact own_none hu) (by simp only[maxLen];omega) (by omega) (by simp;omega)
 have keep:∀k,k<w.heap.size→v.ownBlock≠some k→w'.heap[k]?=w.heap[k]?:=fun k hk hne=>
  (r2.block k (by simp;omega) (fun e=>hne e.symm)).trans (Below.heap_alloc w _ k hk)
 have ap:∀{x:Value} {q:List BindD},bindK.own 190 lo w x q→apart x v→bindK.own 190 lo w' x q∧apart x v':=fun {x q} hx hxa=>by
  refine⟨own_block hx fun k e=>keep k (Kind.own_lt hx e).2 (hxa k e),fun k e e'=> ?_⟩;rcases r4 k e' with h1|h1
  ·exact hxa k e h1
  ·have:=(Kind.own_lt hx e).2;simp at h1;omega
 refine⟨v',w',hrun,⟨by simpa using r1,fun p hp'=> ?_,?_⟩,r2,r3⟩
 ·rcases List.mem_append.1 hp' with h1|h1
  ·exact ap (hp p h1).1 (hp p h1).2
  ·simp at h1;subst h1;exact ap hu hv
 ·rw[List.pairwise_append];exact⟨hpw,List.pairwise_singleton _ _,fun p h1 q h2=>by simp at h2;subst h2;exact ha p h1⟩
theorem Lists.apartOf {tyS ty:TypeId} {lo b:Nat} {w w':World} {v u:Value} {ps:List (Value×List BindD)} {l:List BindD} (h:Lists tyS ty lo w v ps) (hu:bindK.own ty b w' u l) (hb:w.heap.size≤b):(∀p∈ps,apart p.1 u)∧apart u v:=by
 refine⟨fun p hp k e e'=> ?_,fun k e e'=> ?_⟩
 ·have h1:=(Kind.own_lt (h.2.1 p hp).1 e).2;have h2:=(Kind.own_lt hu e').1;omega
 ·have h1:=(h.1.lt k e').2;have h2:=(Kind.own_lt hu e).1;omega
theorem Lists.lo_le {tyS ty:TypeId} {lo:Nat} {w:World} {v:Value} {ps:List (Value×List BindD)} (h:Lists tyS ty lo w v ps):∀k,v.ownBlock=some k→lo≤k:=fun k e=>(h.1.lt k e).1
theorem Lists.base {tyS ty:TypeId} {lo lo':Nat} {w:World} {v:Value} {ps:List (Value×List BindD)} (h:Lists tyS ty lo w v ps) (hl:lo'≤lo):Lists tyS ty lo' w v ps:=by
 obtain⟨ho,hp,hpw⟩:=h;refine⟨⟨ho.1,?_⟩,fun p h1=>⟨own_base (hp p h1).1 hl,(hp p h1).2⟩,hpw⟩;rcases ho.2 with e|⟨g,cap,cur,e,hg,r⟩
 ·exact Or.inl e
 ·exact Or.inr ⟨g,cap,cur,e,Nat.le_trans hl hg,r⟩
theorem filterMap_step {fs:List FactD} {j:Nat} {f:FactD} (h:fs[j]?=some f) (q:FactD→Option (List BindD)):(fs.take (j+1)).filterMap q=match q f with|none=>(fs.take j).filterMap q|some m=>(fs.take j).filterMap q++[m]:=by
 rw[List.take_add_one,h,List.filterMap_append];simp only[Option.toList];cases e:q f with
 |none=>simp[e]
 |some m=>simp[e]
theorem meetAllB_step {a:AtomD} {fs:List FactB} {ls:List (List BindD)} {i:Nat} {l:List BindD} (h:ls[i]?=some l):meetAllB a fs (ls.take (i+1))=meetAllB a fs (ls.take i)++fs.filterMap fun f=>meetB a f l:=by
 unfold meetAllB;rw[List.take_add_one,h,List.flatMap_append];simp
theorem meetAllB_le {a:AtomD} {fs:List FactB} {ls:List (List BindD)} (i:Nat):(meetAllB a fs (ls.take i)).length≤(meetAllB a fs ls).length:=by
 have h:meetAllB a fs ls=meetAllB a fs (ls.take i)++meetAllB a fs (ls.drop i):=by
  unfold meetAllB;rw[←List.flatMap_append,List.take_append_drop]
 rw[h,List.length_append];omega
theorem facts_at {w:World} {a:Option Addr} {n cap:Nat} {l:List FactD} {j:Nat} {f:FactD} (h:Facts w (.slice a n cap) l) (hj:l[j]?=some f):
  ∃b off s,a=some ⟨b,off,none⟩∧b<w.heap.size∧w.cell? ⟨b,off+j*2,none⟩=some (.string f.1)∧w.cell? ⟨b,off+j*2+1,none⟩=some s∧Strs w s f.2:=by
 obtain⟨_,a',cap',e,h1⟩:=h;simp only[Value.slice.injEq] at e;obtain⟨rfl,_,_⟩:=e;obtain⟨hl,e⟩:=List.getElem?_eq_some_iff.1 hj;obtain⟨b,off,rfl,hb,hc⟩:=h1 (by intro e;rw[e] at hl;simp at hl);obtain⟨c1,s,c2,c3⟩:=hc j hl;have ed:l.getD j noFact=f:=by rw[List.getD_eq_getElem?_getD,hj];rfl
 rw[ed] at c1 c3;exact⟨b,off,s,rfl,hb,c1,c2,c3⟩
theorem row3m {w:World} {R:Nat} {u0 u1 u2:Value} {t:TypeId} (h:w.heap[R]?=some (.cells #[u0,u1,u2] t (0,0))):w.cell? ⟨R,0,none⟩=some u0∧w.cell? ⟨R,1,none⟩=some u1∧w.cell? ⟨R,2,none⟩=some u2∧R<w.heap.size:=
 ⟨by rw[cell_of_row _ _ _ _ _ _ h];rfl,by rw[cell_of_row _ _ _ _ _ _ h];rfl,by rw[cell_of_row _ _ _ _ _ _ h];rfl,(Array.getElem?_eq_some_iff.1 h).1⟩
def MetAll (w0 w:World) (v:Value) (ls:List (List BindD)):Prop:=
 if 20000<ls.length then v=.slice none 0 0 else∃ps,ps.map (·.2)=ls∧Lists 158 190 w0.heap.size w v ps
set_option maxRecDepth 100000 in
set_option maxHeartbeats 4000000 in
theorem meetAllC (a:AtomD) (tv fv v:Value) (fs:List FactD) (ls:List (List BindD)) (w:World) (ht:termK.sl Anyw w tv a.terms) (hf:Facts w fv fs) (hv:listK.sl Anyw w v ls) (hfs:fs.length≤200) (hls:ls.length≤20000) (hts:a.terms.length≤4) (hll:∀l∈ls,l.length≤1000):
  Calls Tryz.prog 218 #[.agg #[.bool a.no,.string (bs a.name),tv],fv,v] w fun e w'=>∃v',e=.returned (.tuple #[v',.int .i64 (if 20000<(meetAllB a fs ls).length then 4 else 0)])∧MetAll w w' v' (meetAllB a fs ls)∧Later w w':=by
 obtain⟨sa,cap,rfl⟩:=Kind.slice ht;obtain⟨fa,capf,rfl⟩:=sliceFacts hf;obtain⟨va,capv,rfl⟩:=Kind.slice hv;have HT:=hide ht;have HF:=hide hf;have HV:=hide hv;have HLL:=hide hll;clear ht hf hv hll;have HM:Hid (∀(l:List BindD) (u:Value) (f:FactD) (fv:Value) (w1:World),Later w w1→bindK.sl Anyw w1 u l→FactV w1 fv f→l.length≤1000→Calls Tryz.prog 175 #[.agg #[.bool a.no,.string (bs a.name),.slice sa a.terms.length cap],fv,u] w1 fun e w2=>∃v,e=.returned (.tuple #[v,.bool (meetB a f l).isSome])∧MetV w1 w2 v (meetB a f l)∧Later w1 w2):=fun l u f fv w1 hL hu hf hl=>
  meetC a _ fv u f l w1 (Kind.sl_later HT.out hL) hf hu (by omega)
 obtain⟨q,hq⟩:∃q:List BindD→FactD→Option (List BindD),q=fun l f=>meetB a f l:=⟨_,rfl⟩;have HSt:Hid (∀i l,ls[i]?=some l→meetAllB a fs (ls.take (i+1))=meetAllB a fs (ls.take i)++fs.filterMap (q l)):=fun i l h=>by rw[hq];exact meetAllB_step h
 have HLe:Hid (∀i,(meetAllB a fs (ls.take i)).length≤(meetAllB a fs ls).length):=meetAllB_le;have hqe:∀l f,meetB a f l=q l f:=fun l f=>by rw[hq]
 simp only[hqe] at HM;have H0:Hid (meetAllB a fs (ls.take 0)=[]):=by show _=_;simp[meetAllB]
 have HAll:Hid (meetAllB a fs (ls.take ls.length)=meetAllB a fs ls):=by show _=_;rw[List.take_length]
 clear hqe hq;generalize hA:(fun i=>meetAllB a fs (ls.take i))=A at*;have hA':∀i,meetAllB a fs (ls.take i)=A i:=fun i=>by rw[←hA]
 simp only[hA'] at HSt HLe H0 HAll;clear hA hA';generalize meetAllB a fs ls=R at*;obtain⟨no,name,ts⟩:=a;dsimp only at*;generalize bs name=nm at*;obtain⟨er,her⟩:∃er:Int,er=if 20000<R.length then 4 else 0:=⟨_,rfl⟩;rw[←her];have HER:=hide her;clear her
 go_enter Tryz.func218,Tryz.ntmps218
 go_wp2
 go_loopg [8,17] ls.length (fun g o i wr=>∃j:Nat,j+g=ls.length∧i=.int .i64 j∧∃ps,Hid (ps.map (·.2)=A j)∧Hid (Lists 158 190 (w.heap.size+1) wr o ps)∧Hid ((A j).length≤20000)∧Hid (Later w wr)∧w.heap.size+1≤wr.heap.size∧Hid (wr.heap[w.heap.size]?=some (.cells #[.bool no,.string nm,.slice sa ts.length cap] 85 (0,0))))
 case atStart=>
  refine⟨0,by omega,rfl,[],(by rw[H0.out];rfl:_=_),Lists.nil _ _ _ _,(by rw[H0.out];simp:_≤_),((by repeat (first|exact Later.refl _|assumption|refine Later.drewN ?_ _|refine Later.drew ?_|refine Later.alloc ?_ _|refine Later.grow ?_ _)):Later _ _),by simp,?_⟩;show _=_;exact heap_alloc_new _ _
 case round=>
  obtain⟨i,hi,rfl,ps,HP,HO,HN,HL,hsz,HB⟩:=hrel;obtain⟨ao,no',co,rfl⟩:∃a n c,u8=.slice a n c:=by obtain⟨a,c,e⟩:=Lists.slice HO.out;exact⟨a,_,c,e⟩
  by_cases hlt:i<ls.length
  ·obtain⟨l,hl⟩:∃l,ls[i]?=some l:=⟨_,List.getElem?_eq_getElem hlt⟩;obtain⟨b1,o1,_,rfl,hb1,⟨lv,rfl,hlv⟩,hc⟩:=Kind.sl_at HV.out hl;have d0:wr.cell? ⟨b1,o1+i,none⟩=some lv:=by rw[HL.out.cell hb1];simpa[slK] using hc 0 _ rfl
   have hbr:b1<wr.heap.size:=Nat.lt_of_lt_of_le hb1 HL.out.size;have hl1:l.length≤1000:=HLL.out l (List.mem_of_getElem? hl);have HS:=hide (HSt.out i l hl);obtain⟨al,cl,rfl⟩:=Kind.slice hlv;have HLV:=hide hlv;clear hc hl hlv;go_wp2
   go_loopg [8,23] fs.length (fun g o k wr=>∃j:Nat,j+g=fs.length∧k=.int .i64 j∧∃ps,Hid (ps.map (·.2)=A i++(fs.take j).filterMap (q l))∧Hid (Lists 158 190 (w.heap.size+1) wr o ps)∧Hid (Later w wr)∧w.heap.size+1≤wr.heap.size∧Hid (wr.heap[w.heap.size]?=some (.cells #[.bool no,.string nm,.slice sa ts.length cap] 85 (0,0))))
   case atStart=>exact⟨0,by omega,rfl,ps,(by rw[HP.out];simp:_=_),HO,HL,hsz,HB⟩
   case round=>
    clear d0 hbr hsz HO HP HB HL;obtain⟨j,hj,rfl,ps,HP,HO,HL,hsz,HB⟩:=hrel;obtain⟨ao,no',co,rfl⟩:∃a n c,u8=.slice a n c:=by obtain⟨a,c,e⟩:=Lists.slice HO.out;exact⟨a,_,c,e⟩
    by_cases hltj:j<fs.length
    ·obtain⟨f,hf⟩:∃f,fs[j]?=some f:=⟨_,List.getElem?_eq_getElem hltj⟩;obtain⟨b2,o2,sf,rfl,hb2,f0,f1,f2⟩:=facts_at HF.out hf;have d0:wr.cell? ⟨b2,o2+j*2,none⟩=some (.string f.1):=by rw[HL.out.cell hb2];exact f0
     have d1:wr.cell? ⟨b2,o2+j*2+1,none⟩=some sf:=by rw[HL.out.cell hb2];exact f1
     have hbr:b2<wr.heap.size:=Nat.lt_of_lt_of_le hb2 HL.out.size;have HFM:=hide (filterMap_step hf (q l));obtain⟨wt,hwt⟩:∃wt,wt=wr.alloc (.cells #[.string f.1,sf] 27):=⟨_,rfl⟩;have hLt:Later w wt:=by rw[hwt];exact HL.out.alloc _
     have hLr:Later wr wt:=by rw[hwt];exact(Later.refl _).alloc _
     have hst:wt.heap.size=wr.heap.size+1:=by rw[hwt];simp
     have HC:=hide (HM.out l (.slice al l.length cl) f (.agg #[.string f.1,sf]) wt hLt (Kind.sl_later HLV.out hLt) ⟨sf,rfl,f2.later hLt⟩ hl1);rw[hwt] at HC;obtain⟨q0,q1,q2,q3⟩:=row3m HB.out;obtain⟨af,cf,rfl⟩:=sliceStr f2;have HWT:=hide hwt;clear f0 f1 f2 hf hwt;obtain⟨fn,fargs⟩:=f;dsimp only at*;cases hqf:q l (fn,fargs) with
     |none=>
      rw[hqf] at HC HFM;have HP1:Hid (ps.map (·.2)=A i++(fs.take (j+1)).filterMap (q l)):=by
       show _=_;have:=HFM.out;dsimp only at this;rw[this];exact HP.out
      simp only[Option.isSome_none] at HC;clear hqf HFM
      go_wp2_with fail
      refine HC.out.mono ?_;rintro e w2 ⟨mv,rfl,hmv,hL2⟩;cases hmv;rw[←HWT.out] at hL2;have hLr2:Later wr w2:=hLr.trans hL2;have HO2:=hide (HO.out.later hLr2);have HB2:=hide ((hLr2.block (by omega)).trans HB.out);have HL2:=hide (hLt.trans hL2);have hs2:w.heap.size+1≤w2.heap.size:=by have:=hLr2.size;omega
      clear hL2 hLr2 HC;go_wp2
      go_roundg (fs.length- (j+1))
      case measure=>omega
      case rel=>exact⟨j+1,by omega,by go_num,ps,HP1,HO2,HL2,hs2,HB2⟩
     |some m=>
      rw[hqf] at HC HFM;have HP1:Hid ((ps++[((.slice none 0 0:Value),m)]).map (·.2)=A i++(fs.take (j+1)).filterMap (q l)):=by
       show _=_;have:=HFM.out;dsimp only at this;rw[this,List.map_append,HP.out,List.append_assoc];rfl
      simp only[Option.isSome_some] at HC;have hpl:ps.length≤20000+j:=by
       have h1:=congrArg List.length HP.out;have h2:=HN.out;have h3:=List.length_filterMap_le (q l) (fs.take j);rw[List.length_map,List.length_append] at h1;rw[List.length_take] at h3;omega
      clear hqf HFM HP
      go_wp2_with fail
      refine HC.out.mono ?_;rintro e w2 ⟨mv,rfl,hmv,hL2⟩;have hmo:bindK.own 190 wt.heap.size w2 mv m:=by rw[HWT.out];exact hmv
      clear hmv;rw[←HWT.out] at hL2;have hLr2:Later wr w2:=hLr.trans hL2;have hs2:wr.heap.size<w2.heap.size:=by have:=hL2.size;omega
      have hO2:=HO.out.later hLr2;have hap:=HO.out.apartOf hmo (by omega);obtain⟨v',w4,hrun,hO4,hg4,hd4⟩:=hO2.more (own_base hmo (lo':=w.heap.size+1) (by omega)) hap.1 hap.2 (by omega) (by omega);obtain⟨am,nm',cm,rfl⟩:∃a n c,mv=.slice a n c:=by obtain⟨a,c,e⟩:=Kind.own_slice hmo;exact⟨a,_,c,e⟩
      have HL4:=hide ((hLt.trans hL2).more hg4 hd4 fun k e=>by have:=hO2.lo_le k e;omega);have hs4:w.heap.size+1≤w4.heap.size:=by have:=hg4.size;simp at this;omega
      have HB4:Hid (w4.heap[w.heap.size]?=some (.cells #[.bool no,.string nm,.slice sa ts.length cap] 85 (0,0))):=by
       show _=_;rw[hg4.block w.heap.size (by simp;omega) (fun e=>by have:=hO2.lo_le _ e.symm;omega),Below.heap_alloc _ _ _ (by omega)];exact(hLr2.block (by omega)).trans HB.out
      obtain⟨a4,n4,c4,rfl⟩:∃a n c,v'=.slice a n c:=by obtain⟨a,c,e⟩:=Lists.slice hO4;exact⟨a,_,c,e⟩
      have HR4:=hide hrun;have HO4:=hide hO4;have HP2:Hid ((ps++[((.slice am nm' cm:Value),m)]).map (·.2)=A i++(fs.take (j+1)).filterMap (q l)):=by
       show _=_;rw[←HP1.out];simp
      clear hL2 hLr2 HC hrun hO4 hg4 hd4 hO2 hap hmo HP1
      go_wp2_with (at_builtin;refine wpList_append_run rfl (.tmp 35) (.tmp 37) 62 rfl _ _ _ _ rfl rfl HR4.out ?_)
      go_roundg (fs.length- (j+1))
      case measure=>omega
      case rel=>exact⟨j+1,by omega,by go_num,_,HP2,HO4,HL4,hs4,HB4⟩
    ·have e:j=fs.length:=by omega
     have HP1:Hid (ps.map (·.2)=A (i+1)):=by
      show _=_;rw[HP.out,HS.out,e,List.take_length]
     have hpl:no'=(A (i+1)).length:=by
      have h1:=congrArg List.length HP1.out;obtain⟨a,c,e⟩:=Lists.slice HO.out;simp only[Value.slice.injEq] at e;rw[List.length_map] at h1;omega
     by_cases hbig:20000<(A (i+1)).length
     ·have hz:(20000:Int)<(no':Int):=by omega
      have HR1:Hid (20000<R.length):=by
       show _<_;have:=HLe.out (i+1);omega
      clear hpl hbig HP HP1;go_wp2
      go_ret2
      have e4:er=4:=by rw[HER.out];exact if_pos HR1.out
      refine⟨.slice none 0 0,by rw[e4];rfl,?_,HL.out⟩;unfold MetAll;rw[if_pos HR1.out]
     ·have hz:¬((20000:Int)<(no':Int)):=by omega
      have HN1:Hid ((A (i+1)).length≤20000):=(by omega:_≤_);clear hpl hbig HP;go_wp2
      go_roundg (ls.length- (i+1))
      case measure=>omega
      case rel=>exact⟨i+1,by omega,by go_num,ps,HP1,HO,HN1,HL,hsz,HB⟩
  ·have e:i=ls.length:=by omega
   have HR1:Hid (¬20000<R.length):=by
    show¬_;have:=HN.out;rw[e,HAll.out] at this;omega
   have HP1:Hid (ps.map (·.2)=R):=by show _=_;rw[HP.out,e,HAll.out]
   clear HP HN e;go_wp2
   go_ret2
   have e4:er=0:=by rw[HER.out];exact if_neg HR1.out
   refine⟨.slice ao no' co,by rw[e4];rfl,?_,HL.out⟩;unfold MetAll;rw[if_neg HR1.out];exact⟨ps,HP1.out,HO.out.base (by omega)⟩
end Go.Proofs.YtafmbokfkbccaaaGreatDoor
namespace Go.Proofs.YtafmbokfkbccaaaGreatDoor
open Go.RowKit Go.Sort Go.Maps
abbrev NamesM (w:World) (b n:Nat) (f:Bs→Bool):Prop:=SetM Tryz.prog 9 w b n f
theorem zeroUnit (w:World):(zeroValue 379).run Tryz.prog w=.ok (.agg #[]) w:=by kernel_rfl
theorem zeroInt (w:World):(zeroValue 3).run Tryz.prog w=.ok (.int .i64 0) w:=by kernel_rfl
theorem Tn.of_grown {p:Nat} {a b:World} (h:a.grownBy b (some p)):Tn p a b:=⟨h.os,h.tape,h.output,h.size,fun k hk ho=>h.block k hk (by simpa using ho)⟩
theorem Kind.sl_atB {α:Type} {K:Kind α} {B:Nat→Prop} {w:World} {a:Option Addr} {n cap i:Nat} {l:List α} {x:α} (h:K.sl B w (.slice a n cap) l) (hi:l[i]?=some x):
  ∃b off c,a=some ⟨b,off,none⟩∧b<w.heap.size∧B b∧K.is B w c x∧∀j u,c[j]?=some u→w.cell? ⟨b,off+i*K.size+j,none⟩=some u:=by
 obtain⟨_,a',cap',e,h1⟩:=h;simp only[Value.slice.injEq] at e;obtain⟨rfl,_,_⟩:=e;obtain⟨b,off,rfl,hB,hb,hc⟩:=h1 (by intro e;rw[e] at hi;simp at hi);obtain⟨c,c1,c2⟩:=hc i x hi;exact⟨b,off,c,rfl,hb,hB,c1,c2⟩
set_option maxHeartbeats 400000 in
theorem hasC (b n:Nat) (f:Bs→Bool) (s:Bs) (w:World) (h:NamesM w b n f) (hs:s.length≤maxLen):
  Calls Tryz.prog 297 #[.map (some b),.string (bs s)] w fun e w'=>e=.returned (.bool (f s))∧Later w w':=by
 have hr:=SetM.has (T:=315) (E:=379) h Tryz.underlying9 Tryz.underlying315 (zeroUnit w) hs;generalize f s=r at*;generalize bs s=k at*
 go_enter Tryz.func297,Tryz.ntmps297
 go_wp2;go_ret;exact⟨rfl,(Later.refl _).alloc _⟩
theorem contains_take {l:List Bs} {j:Nat} {x:Bs} (h:l[j]?=some x) (s:Bs):(l.take (j+1)).contains s=((l.take j).contains s||decide (s=x)):=by
 rw[List.take_add_one,h];rw[Bool.eq_iff_iff];simp
set_option maxHeartbeats 1000000 in
theorem addC (b n:Nat) (f:Bs→Bool) (v:Value) (l:List Bs) (w:World) (h:NamesM w b n f) (hv:strK.sl (fun k=>k≠b) w v l) (hn:n+l.length<maxLen) (hs:∀s∈l,s.length≤maxLen):
  Calls Tryz.prog 296 #[.map (some b),v] w fun e w'=>e=.returned (.tuple #[])∧NamesM w' b (n+l.length) (fun s=>f s||l.contains s)∧Tn b w w':=by
 obtain⟨a,cap,rfl⟩:=Kind.slice hv;have HV:=hide hv;have hl:=hv.1.1;clear hv;have H0:Hid (NamesM w b (n+0) (fun s=>f s||(l.take 0).contains s)):=h.congr fun s=>by simp
 clear h
 go_enter Tryz.func296,Tryz.ntmps296
 go_wp2
 go_loopg [8] l.length (fun k i wr=>∃j:Nat,j+k=l.length∧i=.int .i64 j∧Hid (NamesM wr b (n+j) (fun s=>f s||(l.take j).contains s))∧Hid (Tn b w wr))
 case atStart=>exact⟨0,by omega,rfl,H0,Tn.refl _ _⟩
 case round=>
  obtain⟨j,hj,rfl,HM,HT⟩:=hrel
  by_cases hlt:j<l.length
  ·obtain⟨x,hx⟩:∃x,l[j]?=some x:=⟨_,List.getElem?_eq_getElem hlt⟩;obtain⟨b1,o1,_,rfl,hb1,hne,rfl,hc⟩:=Kind.sl_atB HV.out hx;have d0:wr.cell? ⟨b1,o1+j,none⟩=some (.string (bs x)):=by rw[HT.out.cell hb1 hne];simpa[strK] using hc 0 _ rfl
   obtain⟨w1,hr,hm,hg⟩:=SetM.add (T:=315) (E:=379) HM.out Tryz.underlying9 Tryz.underlying315 (by omega) (hs x (List.mem_of_getElem? hx));have HM1:Hid (NamesM w1 b (n+(j+1)) (fun s=>f s||(l.take (j+1)).contains s)):=hm.congr fun s=>by rw[contains_take hx];simp[Bool.or_assoc]
   have HT1:Hid (Tn b w w1):=HT.out.trans (Tn.of_grown hg);clear hc hm hg hx HM HT;generalize bs x=k at*
   go_wp2_with (first
    |(at_mapUpdate;refine wpList_run_update _ rfl _ _ _ _ rfl _ _ _ _ rfl rfl rfl hr ?_)
    |go_in)
   go_roundg (l.length- (j+1))
   case measure=>omega
   case rel=>exact⟨j+1,by omega,by go_num,HM1,HT1⟩
  ·have e:j=l.length:=by omega
   subst e;go_wp2;go_end0;exact⟨rfl,by simpa using HM.out,HT.out⟩
set_option maxHeartbeats 1000000 in
theorem hasAllC (b n:Nat) (f:Bs→Bool) (v:Value) (l:List Bs) (w:World) (h:NamesM w b n f) (hv:strK.sl Anyw w v l) (hs:∀s∈l,s.length≤maxLen):
  Calls Tryz.prog 253 #[.map (some b),v] w fun e w'=>e=.returned (.bool (l.all f))∧Later w w':=by
 obtain⟨a,cap,rfl⟩:=Kind.slice hv;have HV:=hide hv;have hl:=hv.1.1;clear hv;have H0:=hide h;clear h
 go_enter Tryz.func253,Tryz.ntmps253
 go_wp2
 go_loopg [9] l.length (fun k i wr=>∃j:Nat,j+k=l.length∧i=.int .i64 j∧Hid (Later w wr)∧Hid (l.all f=(l.drop j).all f))
 case atStart=>exact⟨0,by omega,rfl,Later.refl _,(rfl:_=_)⟩
 case round=>
  obtain⟨j,hj,rfl,HL,HF⟩:=hrel
  by_cases hlt:j<l.length
  ·obtain⟨x,hx⟩:∃x,l[j]?=some x:=⟨_,List.getElem?_eq_getElem hlt⟩;obtain⟨b1,o1,_,rfl,hb1,rfl,hc⟩:=Kind.sl_at HV.out hx;have d0:wr.cell? ⟨b1,o1+j,none⟩=some (.string (bs x)):=by rw[HL.out.cell hb1];simpa[strK] using hc 0 _ rfl
   have hC:=hasC b n f x wr (H0.out.later HL.out) (hs x (List.mem_of_getElem? hx));have HC:=hide hC;have hd:(l.drop j).all f=(f x&&(l.drop (j+1)).all f):=by
    obtain⟨h1,e1⟩:=List.getElem?_eq_some_iff.1 hx;rw[List.drop_eq_getElem_cons h1,e1];rfl
   clear hc hx hC;generalize bs x=k at*;cases hf:f x
   ·have F:Hid (l.all f=false):=by show _=_;rw[HF.out,hd,hf];rfl
    rw[hf] at HC;clear hd HF
    go_wp2_with (go_at_call 297;refine HC.out.mono ?_;rintro e w' ⟨rfl,hL⟩;replace hL:=hide hL)
    go_ret;exact⟨ret_bool F.out.symm,HL.out.trans (unhide hL)⟩
   ·have F:Hid (l.all f=(l.drop (j+1)).all f):=by show _=_;rw[HF.out,hd,hf];rfl
    rw[hf] at HC;clear hd HF
    go_wp2_with (go_at_call 297;refine HC.out.mono ?_;rintro e w' ⟨rfl,hL⟩;replace hL:=hide hL)
    go_roundg (l.length- (j+1))
    case measure=>omega
    case rel=>exact⟨j+1,by omega,by go_num,HL.out.trans (unhide hL),F⟩
  ·have F:Hid (l.all f=true):=by show _=_;rw[HF.out,List.drop_eq_nil_of_le (by omega)];rfl
   go_wp2;go_ret;exact⟨ret_bool F.out.symm,HL.out⟩
end Go.Proofs.YtafmbokfkbccaaaGreatDoor
