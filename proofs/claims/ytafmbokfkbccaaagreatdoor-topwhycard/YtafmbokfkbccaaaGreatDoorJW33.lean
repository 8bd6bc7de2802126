import Derived.Test.YtafmbokfkbccaaaGreatDoorJW32
import Derived.Test.YtafmbokfkbccaaaGreatDoorJW3
import Derived.Test.YtafmbokfkbccaaaGreatDoorJW25
import Derived.Lib.SlBytesRow
namespace Go.Proofs.YtafmbokfkbccaaaGreatDoor
open Go.RowKit Go.Sort Go.Maps
theorem Co:∀(n:Nat) (x:bE),Deep n x→cnt (n+1) x=cnt n x
 |0,x,h=>h.elim
 |n+1,x,h=>by
  show 1+(x.kids.map (cnt (n+1))).sum=1+(x.kids.map (cnt n)).sum;have e:x.kids.map (cnt (n+1))=x.kids.map (cnt n):=List.map_congr_left fun k hk=>Co n k (h k hk);rw[e]
theorem Bh {p:List aA} {told:List aj} {f:aj} {x:bE} (h:kC p told f=(0,some x)):x.fact=f∧uQ p told 60 x=0∧cnt 61 x≤400∧Deep 60 x∧gG p told=0:=by
 unfold kC at h;split at h
 ·simp at h
 ·rename_i h0;have h0:gG p told=0:=Classical.byContradiction h0;obtain⟨_,_,_,hall,hho,_⟩:=nH h0;split at h
  ·simp at h
  ·split at h
   ·simp at h
   ·rename_i hin;have hin:f∈aY told (eO p told):=by
     refine aN.1 ?_;cases e:inB (aY told (eO p told)) f with
     |true=>rfl
     |false=>exact absurd e hin
    split at h
    ·simp at h
    ·rename_i y hy;simp only[Prod.mk.injEq,Option.some.injEq,true_and] at h;subst h;obtain⟨s',hs⟩:∃s',bC (lK (lF (aY told (eO p told))) p told (aY told (eO p told)) (told::eO p told)) 61 f 1 (0,0)=(some y,s'):=⟨_,Prod.ext hy rfl⟩;obtain⟨a1,a2,a3,a4⟩:=BX hho 60 f 1 (0,0) y s' rfl hin hs;obtain⟨b1,_⟩:=oH 61 f 1 (0,0) y s' hs;have e1:(lD p told).1=0:=by rw[hall]
     have e2:(lD p told).2=aY told (eO p told):=by rw[hall]
     have hc:cnt 61 y=cnt 60 y:=Co 60 y a3;have a1:s'.1=0+cnt 60 y:=a1;have hm:=Fh (en:=j5) 60 (60+2) [y] (0,0) (fun z hz=>by simp at hz;subst hz;exact a3);simp only[List.map_cons,List.map_nil,List.sum_cons,List.sum_nil,Nat.zero_add,Nat.add_zero] at hm;refine⟨a2,?_,by omega,a3,h0⟩;unfold uQ;rw[if_neg (fun h=>h e1),if_neg,e2]
     ·exact a4 61 (by omega)
     ·unfold j5 at hm⊢;simp only[Bool.or_eq_true,decide_eq_true_eq,not_or];omega
end Go.Proofs.YtafmbokfkbccaaaGreatDoor
namespace Go.Proofs.YtafmbokfkbccaaaGreatDoor
open Go.RowKit Go.Sort
def nmL (i:Nat):Bs:=[116,UInt8.ofNat (97+i)]
def PV (n i:Nat) (b:Bool):Bs:=nmL i++[32,58,45,32]++(if b then 33::nmL ((i+1)%n) else nmL ((i+1)%n))++[46]
def Nj (n:Nat):Nat→List Bool→Bs
 |_,[]=>[]
 |i,b::l=>PV n i b++Nj n (i+1) l
def RI (b:List Bool):Bool:=
 let t:=dY (Nj b.length 0 b)
 decide (t.2.1=0)&&(let s:=aK t.1
  if b.any id then decide (s.2.1=10) else decide (s.2.1=0)&&decide ((Mg t.1 s.1 (countP s.1) 0 []).1=0))
def nI:Nat→List (List Bool)
 |0=>[[]]
 |n+1=>(nI n).flatMap fun l=>[false::l,true::l]
theorem wV:∀(b:List Bool),b∈nI b.length
 |[]=>by simp[nI]
 |x::b=>by
  show _∈(nI b.length).flatMap _;refine List.mem_flatMap.2 ⟨b,wV b,?_⟩;cases x <;> simp
end Go.Proofs.YtafmbokfkbccaaaGreatDoor
namespace Go.Proofs.YtafmbokfkbccaaaGreatDoor
open Go.RowKit Go.Sort
def nmB (i:Nat):ByteArray:=bs (nmL i)
theorem kV (c:UInt8) (w:World):(convert 48 9 (.slice (some ⟨w.heap.size,0,none⟩) 1 1)).run Tryz.prog (w.alloc (.cells #[.int .u8 (c.toNat:Int)] 5))=.ok (.string ⟨#[c]⟩) (w.alloc (.cells #[.int .u8 (c.toNat:Int)] 5)):=by
 refine Lib.run_convert_whole _ 48 5 9 Tryz.underlying48 Tryz.underlying5 Tryz.underlying9 w.heap.size 0 ⟨#[c]⟩ (fun i hi=> ?_) 1;have:i=0:=by
  have:i<1:=hi;omega
 subst this;rw[cell_of_row _ _ _ _ _ _ (heap_alloc_new w _)]
 rfl
set_option maxRecDepth 100000 in
theorem PW (w:World):Calls Tryz.prog 47 #[.int .i64 0] w fun e w'=>e=.returned (.string (nmB 0))∧Later w w':=by
 have hcv:(convert 48 9 (.slice (some ⟨w.heap.size,0,none⟩) 1 1)).run Tryz.prog (w.alloc (.cells #[.int .u8 97] 5))=.ok (.string ⟨#[97]⟩) (w.alloc (.cells #[.int .u8 97] 5)):=kV 97 w
 go_enter Tryz.func47,Tryz.ntmps47
 go_wp2;go_ret;exact⟨rfl,(by repeat (first|exact Later.refl _|assumption|refine Later.drewN ?_ _|refine Later.drew ?_|refine Later.alloc ?_ _|refine Later.grow ?_ _))⟩
set_option maxRecDepth 100000 in
theorem name1 (w:World):Calls Tryz.prog 47 #[.int .i64 1] w fun e w'=>e=.returned (.string (nmB 1))∧Later w w':=by
 have hcv:(convert 48 9 (.slice (some ⟨w.heap.size,0,none⟩) 1 1)).run Tryz.prog (w.alloc (.cells #[.int .u8 98] 5))=.ok (.string ⟨#[98]⟩) (w.alloc (.cells #[.int .u8 98] 5)):=kV 98 w
 go_enter Tryz.func47,Tryz.ntmps47
 go_wp2;go_ret;exact⟨rfl,(by repeat (first|exact Later.refl _|assumption|refine Later.drewN ?_ _|refine Later.drew ?_|refine Later.alloc ?_ _|refine Later.grow ?_ _))⟩
set_option maxRecDepth 100000 in
theorem name2 (w:World):Calls Tryz.prog 47 #[.int .i64 2] w fun e w'=>e=.returned (.string (nmB 2))∧Later w w':=by
 have hcv:(convert 48 9 (.slice (some ⟨w.heap.size,0,none⟩) 1 1)).run Tryz.prog (w.alloc (.cells #[.int .u8 99] 5))=.ok (.string ⟨#[99]⟩) (w.alloc (.cells #[.int .u8 99] 5)):=kV 99 w
 go_enter Tryz.func47,Tryz.ntmps47
 go_wp2;go_ret;exact⟨rfl,(by repeat (first|exact Later.refl _|assumption|refine Later.drewN ?_ _|refine Later.drew ?_|refine Later.alloc ?_ _|refine Later.grow ?_ _))⟩
set_option maxRecDepth 100000 in
theorem PY (w:World):Calls Tryz.prog 47 #[.int .i64 3] w fun e w'=>e=.returned (.string (nmB 3))∧Later w w':=by
 have hcv:(convert 48 9 (.slice (some ⟨w.heap.size,0,none⟩) 1 1)).run Tryz.prog (w.alloc (.cells #[.int .u8 100] 5))=.ok (.string ⟨#[100]⟩) (w.alloc (.cells #[.int .u8 100] 5)):=kV 100 w
 go_enter Tryz.func47,Tryz.ntmps47
 go_wp2;go_ret;exact⟨rfl,(by repeat (first|exact Later.refl _|assumption|refine Later.drewN ?_ _|refine Later.drew ?_|refine Later.alloc ?_ _|refine Later.grow ?_ _))⟩
set_option maxRecDepth 100000 in
theorem PZ (w:World):Calls Tryz.prog 47 #[.int .i64 4] w fun e w'=>e=.returned (.string (nmB 4))∧Later w w':=by
 have hcv:(convert 48 9 (.slice (some ⟨w.heap.size,0,none⟩) 1 1)).run Tryz.prog (w.alloc (.cells #[.int .u8 101] 5))=.ok (.string ⟨#[101]⟩) (w.alloc (.cells #[.int .u8 101] 5)):=kV 101 w
 go_enter Tryz.func47,Tryz.ntmps47
 go_wp2;go_ret;exact⟨rfl,(by repeat (first|exact Later.refl _|assumption|refine Later.drewN ?_ _|refine Later.drew ?_|refine Later.alloc ?_ _|refine Later.grow ?_ _))⟩
set_option maxRecDepth 100000 in
theorem P5 (w:World):Calls Tryz.prog 47 #[.int .i64 5] w fun e w'=>e=.returned (.string (nmB 5))∧Later w w':=by
 have hcv:(convert 48 9 (.slice (some ⟨w.heap.size,0,none⟩) 1 1)).run Tryz.prog (w.alloc (.cells #[.int .u8 102] 5))=.ok (.string ⟨#[102]⟩) (w.alloc (.cells #[.int .u8 102] 5)):=kV 102 w
 go_enter Tryz.func47,Tryz.ntmps47
 go_wp2;go_ret;exact⟨rfl,(by repeat (first|exact Later.refl _|assumption|refine Later.drewN ?_ _|refine Later.drew ?_|refine Later.alloc ?_ _|refine Later.grow ?_ _))⟩
set_option maxRecDepth 100000 in
theorem P6 (w:World):Calls Tryz.prog 47 #[.int .i64 6] w fun e w'=>e=.returned (.string (nmB 6))∧Later w w':=by
 have hcv:(convert 48 9 (.slice (some ⟨w.heap.size,0,none⟩) 1 1)).run Tryz.prog (w.alloc (.cells #[.int .u8 103] 5))=.ok (.string ⟨#[103]⟩) (w.alloc (.cells #[.int .u8 103] 5)):=kV 103 w
 go_enter Tryz.func47,Tryz.ntmps47
 go_wp2;go_ret;exact⟨rfl,(by repeat (first|exact Later.refl _|assumption|refine Later.drewN ?_ _|refine Later.drew ?_|refine Later.alloc ?_ _|refine Later.grow ?_ _))⟩
set_option maxRecDepth 100000 in
theorem P7 (w:World):Calls Tryz.prog 47 #[.int .i64 7] w fun e w'=>e=.returned (.string (nmB 7))∧Later w w':=by
 have hcv:(convert 48 9 (.slice (some ⟨w.heap.size,0,none⟩) 1 1)).run Tryz.prog (w.alloc (.cells #[.int .u8 104] 5))=.ok (.string ⟨#[104]⟩) (w.alloc (.cells #[.int .u8 104] 5)):=kV 104 w
 go_enter Tryz.func47,Tryz.ntmps47
 go_wp2;go_ret;exact⟨rfl,(by repeat (first|exact Later.refl _|assumption|refine Later.drewN ?_ _|refine Later.drew ?_|refine Later.alloc ?_ _|refine Later.grow ?_ _))⟩
theorem Gg (i:Nat) (hi:i<8) (w:World):Calls Tryz.prog 47 #[.int .i64 (i:Nat)] w fun e w'=>e=.returned (.string (nmB i))∧Later w w':=by
 have h:i=0∨i=1∨i=2∨i=3∨i=4∨i=5∨i=6∨i=7:=by omega
 rcases h with rfl|rfl|rfl|rfl|rfl|rfl|rfl|rfl
 ·exact PW w
 ·exact name1 w
 ·exact name2 w
 ·exact PY w
 ·exact PZ w
 ·exact P5 w
 ·exact P6 w
 ·exact P7 w
set_option maxRecDepth 100000 in
set_option maxHeartbeats 1000000 in
theorem Nk (a b:Nat) (ha:a<8) (hb:b<8) (w:World):Calls Tryz.prog 51 #[.int .i64 (a:Nat),.int .i64 (b:Nat)] w fun e w'=>∃v,e=.returned v∧bW w' v ({data:=#[114,111,97,100]},[nmB a,nmB b])∧Later w w'∧Qp w w' v:=by
 have HA:Hid (∀w,Calls Tryz.prog 47 #[.int .i64 (a:Nat)] w fun e w'=>e=.returned (.string (nmB a))∧Later w w'):=Gg a ha;have HB:Hid (∀w,Calls Tryz.prog 47 #[.int .i64 (b:Nat)] w fun e w'=>e=.returned (.string (nmB b))∧Later w w'):=Gg b hb;clear ha hb;generalize nmB a=na at*;generalize nmB b=nb at*
 go_enter Tryz.func51,Tryz.ntmps51
 go_wp2_with fail
 refine(HA.out _).mono ?_;rintro e w1 ⟨rfl,hL1⟩;have HL1:=hide hL1;clear hL1 HA
 go_wp2_with fail
 refine(HB.out _).mono ?_;rintro e w2 ⟨rfl,hL2⟩;have K4:=HL1.out.trans hL2;have hr2:w2.heap[w.heap.size]?=some (.cells #[.string {data:=#[]},.slice none 0 0] 27 (0,0)):=by
  rw[K4.block (by simp)];exact heap_alloc_new w _
 have hlt2:w.heap.size<w2.heap.size:=(Array.getElem?_eq_some_iff.1 hr2).1;have hlo:w.heap.size≤w2.heap.size:=Nat.le_of_lt hlt2;obtain⟨q0,q1,p0,p1,q2⟩:=jR hr2;have hz1:(w2.setCell ⟨w.heap.size,0,none⟩ (.string {data:=#[114,111,97,100]})).heap.size=w2.heap.size:=by simp
 have hr4:=dJ (j:=0) hr2 (.string {data:=#[114,111,97,100]});have hr5:((w2.setCell ⟨w.heap.size,0,none⟩ (.string {data:=#[114,111,97,100]})).alloc (.cells #[.string na,.string nb] 9)).heap[w.heap.size]?=some (.cells #[.string {data:=#[114,111,97,100]},.slice none 0 0] 27 (0,0)):=by
  rw[bI,if_neg (by omega)];exact hr4
 obtain⟨q3,q4,p3,p4,q5⟩:=jR hr5;have q6:(w2.alloc (.cells #[.string na,.string nb] 9)).cell? ⟨w.heap.size,0,none⟩=some (.string {data:=#[]}):=by
  have h:(w2.alloc (.cells #[.string na,.string nb] 9)).heap[w.heap.size]?=some (.cells #[.string {data:=#[]},.slice none 0 0] 27 (0,0)):=by
   rw[bI,if_neg (by omega)];exact hr2
  exact(jR h).1
 have p6:(w2.alloc (.cells #[.string na,.string nb] 9)).frozen? ⟨w.heap.size,0,none⟩=false:=by
  have h:(w2.alloc (.cells #[.string na,.string nb] 9)).heap[w.heap.size]?=some (.cells #[.string {data:=#[]},.slice none 0 0] 27 (0,0)):=by
   rw[bI,if_neg (by omega)];exact hr2
  exact(jR h).2.2.1
 have HR2:=hide hr2;have HL2:Hid (Later w w2):=((Later.refl w).alloc _).trans K4;clear hL2 K4 hr2 hr4 hr5 HB HL1 hlo;go_wp2;have hrow:=dJ (j:=1) (dJ (j:=0) HR2.out (.string {data:=#[114,111,97,100]})) (.slice (some ⟨w2.heap.size,0,none⟩) 2 2);have hz2:((w2.setCell ⟨w.heap.size,0,none⟩ (.string {data:=#[114,111,97,100]})).setCell ⟨w.heap.size,1,none⟩ (.slice (some ⟨w2.heap.size,0,none⟩) 2 2)).heap.size=w2.heap.size:=by simp
 have hrow2:(((w2.setCell ⟨w.heap.size,0,none⟩ (.string {data:=#[114,111,97,100]})).setCell ⟨w.heap.size,1,none⟩ (.slice (some ⟨w2.heap.size,0,none⟩) 2 2)).alloc (.cells #[.string na,.string nb] 9)).heap[w.heap.size]?=some (.cells #[.string {data:=#[114,111,97,100]},.slice (some ⟨w2.heap.size,0,none⟩) 2 2] 27 (0,0)):=by
  rw[bI,if_neg (by omega)];exact hrow
 have r0:=(jR hrow2).1;have r1:=(jR hrow2).2.1;refine bodyPost_ret (v:=.agg #[.string {data:=#[114,111,97,100]},.slice (some ⟨w2.heap.size,0,none⟩) 2 2]) (by simp[results,Tryz.results51,go_sem,r0,r1]) rfl ⟨_,rfl,⟨_,rfl,?_⟩,?_,_,_,rfl,fun k e=> ?_⟩
 ·refine Jy (t:=9) (fr:=(0,0)) ?_;rw[bI,if_pos (by rw[hz2])]
 ·exact((HL2.out.setCell (by show w.heap.size≤w.heap.size;omega) _).setCell (by show w.heap.size≤w.heap.size;omega) _).alloc _
 ·have e:w2.heap.size=k:=by simpa[Value.ownBlock] using e
  rw[World.size_alloc,hz2];omega
theorem Nl (a b:Nat) (ha:a<8) (hb:b<8) (w:World):Calls Tryz.prog 51 #[.int .i64 (a:Nat),.int .i64 (b:Nat)] w fun e w'=>∃v,e=.returned v∧bW w' v ({data:=#[114,111,97,100]},[nmB a,nmB b])∧Later w w':=
 (Nk a b ha hb w).mono fun _ _ ⟨v,h1,h2,h3,_⟩=>⟨v,h1,h2,h3⟩
set_option maxRecDepth 100000 in
set_option maxHeartbeats 1000000 in
theorem P8 (a b:Nat) (ha:a<8) (hb:b<8) (w:World):Calls Tryz.prog 48 #[.int .i64 (a:Nat),.int .i64 (b:Nat)] w fun e w'=>∃v,e=.returned v∧bW w' v ({data:=#[119,97,121]},[nmB a,nmB b])∧Later w w':=by
 have HA:Hid (∀w,Calls Tryz.prog 47 #[.int .i64 (a:Nat)] w fun e w'=>e=.returned (.string (nmB a))∧Later w w'):=Gg a ha;have HB:Hid (∀w,Calls Tryz.prog 47 #[.int .i64 (b:Nat)] w fun e w'=>e=.returned (.string (nmB b))∧Later w w'):=Gg b hb;clear ha hb;generalize nmB a=na at*;generalize nmB b=nb at*
 go_enter Tryz.func48,Tryz.ntmps48
 go_wp2_with fail
 refine(HA.out _).mono ?_;rintro e w1 ⟨rfl,hL1⟩;have HL1:=hide hL1;clear hL1 HA
 go_wp2_with fail
 refine(HB.out _).mono ?_;rintro e w2 ⟨rfl,hL2⟩;have K4:=HL1.out.trans hL2;have hr2:w2.heap[w.heap.size]?=some (.cells #[.string {data:=#[]},.slice none 0 0] 27 (0,0)):=by
  rw[K4.block (by simp)];exact heap_alloc_new w _
 have hlt2:w.heap.size<w2.heap.size:=(Array.getElem?_eq_some_iff.1 hr2).1;have hlo:w.heap.size≤w2.heap.size:=Nat.le_of_lt hlt2;obtain⟨q0,q1,p0,p1,q2⟩:=jR hr2;have hz1:(w2.setCell ⟨w.heap.size,0,none⟩ (.string {data:=#[119,97,121]})).heap.size=w2.heap.size:=by simp
 have hr4:=dJ (j:=0) hr2 (.string {data:=#[119,97,121]});have hr5:((w2.setCell ⟨w.heap.size,0,none⟩ (.string {data:=#[119,97,121]})).alloc (.cells #[.string na,.string nb] 9)).heap[w.heap.size]?=some (.cells #[.string {data:=#[119,97,121]},.slice none 0 0] 27 (0,0)):=by
  rw[bI,if_neg (by omega)];exact hr4
 obtain⟨q3,q4,p3,p4,q5⟩:=jR hr5;have q6:(w2.alloc (.cells #[.string na,.string nb] 9)).cell? ⟨w.heap.size,0,none⟩=some (.string {data:=#[]}):=by
  have h:(w2.alloc (.cells #[.string na,.string nb] 9)).heap[w.heap.size]?=some (.cells #[.string {data:=#[]},.slice none 0 0] 27 (0,0)):=by
   rw[bI,if_neg (by omega)];exact hr2
  exact(jR h).1
 have p6:(w2.alloc (.cells #[.string na,.string nb] 9)).frozen? ⟨w.heap.size,0,none⟩=false:=by
  have h:(w2.alloc (.cells #[.string na,.string nb] 9)).heap[w.heap.size]?=some (.cells #[.string {data:=#[]},.slice none 0 0] 27 (0,0)):=by
   rw[bI,if_neg (by omega)];exact hr2
  exact(jR h).2.2.1
 have HR2:=hide hr2;have HL2:Hid (Later w w2):=((Later.refl w).alloc _).trans K4;clear hL2 K4 hr2 hr4 hr5 HB HL1 hlo;go_wp2;have hrow:=dJ (j:=1) (dJ (j:=0) HR2.out (.string {data:=#[119,97,121]})) (.slice (some ⟨w2.heap.size,0,none⟩) 2 2);have hz2:((w2.setCell ⟨w.heap.size,0,none⟩ (.string {data:=#[119,97,121]})).setCell ⟨w.heap.size,1,none⟩ (.slice (some ⟨w2.heap.size,0,none⟩) 2 2)).heap.size=w2.heap.size:=by simp
 have hrow2:(((w2.setCell ⟨w.heap.size,0,none⟩ (.string {data:=#[119,97,121]})).setCell ⟨w.heap.size,1,none⟩ (.slice (some ⟨w2.heap.size,0,none⟩) 2 2)).alloc (.cells #[.string na,.string nb] 9)).heap[w.heap.size]?=some (.cells #[.string {data:=#[119,97,121]},.slice (some ⟨w2.heap.size,0,none⟩) 2 2] 27 (0,0)):=by
  rw[bI,if_neg (by omega)];exact hrow
 have r0:=(jR hrow2).1;have r1:=(jR hrow2).2.1;refine bodyPost_ret (v:=.agg #[.string {data:=#[119,97,121]},.slice (some ⟨w2.heap.size,0,none⟩) 2 2]) (by simp[results,Tryz.results48,go_sem,r0,r1]) rfl ⟨_,rfl,⟨_,rfl,?_⟩,?_⟩
 ·refine Jy (t:=9) (fr:=(0,0)) ?_;rw[bI,if_pos (by rw[hz2])]
 ·exact((HL2.out.setCell (by show w.heap.size≤w.heap.size;omega) _).setCell (by show w.heap.size≤w.heap.size;omega) _).alloc _
end Go.Proofs.YtafmbokfkbccaaaGreatDoor
namespace Go.Proofs.YtafmbokfkbccaaaGreatDoor
open Go.RowKit Go.Sort
def Cq:Bs:=[119,97,121,40,88,44,89,41,32,58,45,32,114,111,97,100,40,88,44,89,41,46,32,119,97,121,40,88,44,90,41,32,58,45,32,119,97,121,40,88,44,89,41,44,32,114,111,97,100,40,89,44,90,41,46,32,99,117,116,40,88,44,89,41,32,58,45,32,116,111,119,110,40,88,41,44,32,116,111,119,110,40,89,41,44,32,33,119,97,121,40,88,44,89,41,46]
def kW : List aA :=
  [⟨⟨false, [119, 97, 121], [(true, [88]), (true, [89])]⟩, [⟨false, [114, 111, 97, 100], [(true, [88]), (true, [89])]⟩]⟩,
   ⟨⟨false, [119, 97, 121], [(true, [88]), (true, [90])]⟩, [⟨false, [119, 97, 121], [(true, [88]), (true, [89])]⟩, ⟨false, [114, 111, 97, 100], [(true, [89]), (true, [90])]⟩]⟩,
   ⟨⟨false, [99, 117, 116], [(true, [88]), (true, [89])]⟩, [⟨false, [116, 111, 119, 110], [(true, [88])]⟩, ⟨false, [116, 111, 119, 110], [(true, [89])]⟩, ⟨true, [119, 97, 121], [(true, [88]), (true, [89])]⟩]⟩]
def IZ (a b:Nat):aj:=(kb [114,111,97,100],[kb (nmL a),kb (nmL b)])
def Nn (a b:Nat):aj:=(kb [119,97,121],[kb (nmL a),kb (nmL b)])
def nJ:List aj:=[IZ 0 1,IZ 1 2]
def DW:List aj:=[IZ 0 1,IZ 1 2,Nn 0 1,Nn 0 2,Nn 1 2]
theorem uW:dY Cq=(kW,0,0):=by kernel_rfl
theorem kX:aK kW=([0,0,1],0,0):=by kernel_rfl
theorem DX:Mg kW [0,0,1] 2 0 nJ=(0,DW):=by decide+kernel
theorem Gh:Up nJ:=by show List.Pairwise _ _;rw[J4];decide+kernel
theorem I4:Up DW:=by show List.Pairwise _ _;rw[J4];decide+kernel
theorem zy:∀f∈nJ,gI f=0:=by decide+kernel
theorem DY:∀f∈nJ,sS kW f=true:=by decide+kernel
theorem Bj:GoodS kW nJ:=⟨Gh,fun f hf=>gY.1 (zy f hf),by decide,DY⟩
theorem DZ:lD kW nJ=(0,DW):=by
 have e1:(aK kW).2.1=0:=by rw[kX]
 have e2:(aK kW).1=[0,0,1]:=by rw[kX]
 have e3:(fE kW nJ).1=0:=by rw[uP Bj]
 unfold lD;rw[if_neg (fun h=>h e1),if_neg (fun h=>h e3),e2,MX,EX];exact DX
theorem Np {w:World} {c:Nat} {n0 n1:ByteArray} {s0 s1:Value} {l0 l1:List ByteArray} {t:TypeId} {fr:Nat×Nat} (h:w.heap[c]?=some (.cells #[.string n0,s0,.string n1,s1] t fr)) (h0:Strs w s0 l0) (h1:Strs w s1 l1):
  Facts w (.slice (some ⟨c,0,none⟩) 2 2) [(n0,l0),(n1,l1)]:=by
 refine⟨by simp,_,2,rfl,fun _=>⟨c,0,rfl,(Array.getElem?_eq_some_iff.1 h).1,fun i hi=> ?_⟩⟩;rw[cell_of_row _ _ _ _ _ _ h,cell_of_row _ _ _ _ _ _ h];simp at hi;have:i=0∨i=1:=by omega
 rcases this with rfl|rfl
 ·exact⟨rfl,s0,rfl,h0⟩
 ·exact⟨rfl,s1,rfl,h1⟩
set_option maxRecDepth 100000 in
set_option maxHeartbeats 4000000 in
theorem Nq (w:World) (m:Int) (hm:w.cell? ⟨1,0,none⟩=some (.int .i64 m)):Calls Tryz.prog 44 #[] w fun e w'=>e=.returned (.bool true)∧Below w.heap.size w w':=by
 have HP:=hide (Jw (bs Cq) w m hm);rw[ig,uW] at HP;clear hm
 go_enter Tryz.func44,Tryz.ntmps44
 go_wp2_with fail
 refine HP.out.mono ?_;rintro e w1 ⟨v1,rfl,hV1,hB1⟩;dsimp only at hV1⊢;have HV1:=hide (Kind.dV hV1);have HB1:=hide hB1;obtain⟨va,vc,rfl⟩:=Kind.slice hV1;clear HP hV1 hB1;obtain⟨w2,hw2⟩:∃w2,w2=w1.alloc (.cells #[.int .i64 0,.int .i64 0] 75):=⟨_,rfl⟩;have hL2:Later w1 w2:=by rw[hw2];exact(Later.refl _).alloc _
 have hr2:w2.heap[w1.heap.size]?=some (.cells #[.int .i64 0,.int .i64 0] 75 (0,0)):=by rw[hw2];exact heap_alloc_new w1 _
 have H01:=hide (Nl 0 1 (by omega) (by omega) w2);have HW2:=hide hw2;clear hw2
 go_wp2_with fail
 rw[←HW2.out];refine H01.out.mono ?_;rintro e w3 ⟨v3,rfl,hF3,hL3⟩;have H12:=hide (Nl 1 2 (by omega) (by omega) w3);obtain⟨s3,rfl,hs3⟩:=hF3;obtain⟨a3,c3,rfl⟩:=aW hs3;have HS3:=hide hs3;have HL3:=hide (hL2.trans hL3);have HR3:=hide ((hL3.block (Array.getElem?_eq_some_iff.1 hr2).1).trans hr2);clear hs3 hL3 H01 hL2 hr2 HW2
 go_wp2_with fail
 refine H12.out.mono ?_;rintro e w4 ⟨v4,rfl,hF4,hL4⟩;obtain⟨s4,rfl,hs4⟩:=hF4;obtain⟨a4,c4,rfl⟩:=aW hs4;obtain⟨w5,hw5⟩:∃w5,w5=w4.alloc (.cells #[.string {data:=#[114,111,97,100]},.slice a3 2 c3,.string {data:=#[114,111,97,100]},.slice a4 2 c4] 27):=⟨_,rfl⟩;have hL5:Later w4 w5:=by rw[hw5];exact(Later.refl _).alloc _
 have hr5:w5.heap[w4.heap.size]?=some (.cells #[.string {data:=#[114,111,97,100]},.slice a3 2 c3,.string {data:=#[114,111,97,100]},.slice a4 2 c4] 27 (0,0)):=by rw[hw5];exact heap_alloc_new w4 _
 have hF5:Facts w5 (.slice (some ⟨w4.heap.size,0,none⟩) 2 2) nJ:=Np hr5 (HS3.out.later (hL4.trans hL5)) (hs4.later hL5);have P9:=HL3.out.trans (hL4.trans hL5);have hB5:=ak HB1.out P9.below HB1.out.size;have HA:=hide (rV kW nJ (.slice va kW.length vc) (.slice (some ⟨w4.heap.size,0,none⟩) 2 2) w5 (Kind.aH HV1.out P9) hF5);rw[DZ] at HA;have Bf:w5.heap[w1.heap.size]?=some (.cells #[.int .i64 0,.int .i64 0] 75 (0,0)):=((hL4.trans hL5).block (Array.getElem?_eq_some_iff.1 HR3.out).1).trans HR3.out;have HR5:=hide Bf;have HB5:=hide hB5;have HW5:=hide hw5;clear hs4 hL4 hw5 hL5 hr5 hF5 P9 hB5 Bf H12 HS3 HL3 HR3 HV1 HB1
 go_wp2_with fail
 rw[←HW5.out];refine HA.out.mono ?_;rintro e w6 ⟨v6,er,rfl,⟨her,_,hT6⟩,hB6⟩;dsimp only at her hT6;subst her;have hF6:=hT6 rfl;have HF6:=hide hF6;have HB6:=hide (ak HB5.out hB6 HB5.out.size);have hr6:=(hB6.block _ (Array.getElem?_eq_some_iff.1 HR5.out).1).trans HR5.out;have c0:w6.cell? ⟨w1.heap.size,0,none⟩=some (.int .i64 0):=by rw[cell_of_row _ _ _ _ _ _ hr6];rfl
 obtain⟨a6,c6,rfl⟩:=aD hF6;have h5:DW.length=5:=rfl;rw[h5] at HF6⊢;have H02:=hide (P8 0 2 (by omega) (by omega) w6);clear hT6 hB6 hF6 h5 hr6 HA HB5 HR5 HW5
 go_wp2_with fail
 refine H02.out.mono ?_;rintro e w7 ⟨v7,rfl,hF7,hL7⟩;have HI:=hide (inC (.slice a6 5 c6) _ DW (Nn 0 2) w7 (HF6.out.later hL7) hF7 I4);rw[tu,show inB DW (Nn 0 2)=true by decide+kernel] at HI;obtain⟨s7,rfl,hs7⟩:=hF7;obtain⟨a7,c7,rfl⟩:=aW hs7;have HB7:=hide (ak HB6.out hL7.below HB6.out.size);clear hs7 hL7 H02 c0
 go_wp2_with fail
 refine HI.out.mono ?_;rintro e w8 ⟨rfl,hL8⟩;have HB8:=hide (ak HB7.out hL8.below HB7.out.size);clear hL8 HI;go_wp2;go_ret;exact⟨rfl,HB8.out⟩
end Go.Proofs.YtafmbokfkbccaaaGreatDoor
