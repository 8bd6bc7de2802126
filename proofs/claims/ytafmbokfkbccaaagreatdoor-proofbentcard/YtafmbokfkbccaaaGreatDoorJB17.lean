import Derived.Shelf.Strings.BuilderK
import Derived.Test.YtafmbokfkbccaaaGreatDoorJB16
import Derived.Test.YtafmbokfkbccaaaGreatDoorJB5
import Derived.RangeFuncNested
import Derived.RangeFuncBound
import Derived.RangeFuncCalls
import Derived.RangeFuncLeaves
import Derived.Shelf.AbstractIn
import Derived.Shelf.Abstract
import Derived.Sort.MapsRangeIn
import Derived.Sort.KeysCollected
import Derived.Maps.OwnIn
import Derived.Maps.AppendAt
import Derived.WalkKit
import Derived.OwnWalkIn
import Derived.TacticsInMore
import Derived.RegionIn
import Derived.LoopNIn
import Derived.LoopIn
import Derived.Test.YtafmbokfkbccaaaGreatDoorJB4
import Derived.Test.YtafmbokfkbccaaaGreatDoorJB13
import Derived.Lib.SliceRun
import Derived.Shelf.SlSortCmp.WholeK
import Derived.Test.YtafmbokfkbccaaaGreatDoorProg
namespace Go.Proofs.YtafmbokfkbccaaaGreatDoor
open Go.RowKit Go.Sort Go.Shelf
def Fg:Go.Shelf.Ren:=⟨fun|166=>228|167=>230|240=>272|276=>316|n=>n,fun|0=>0|3=>3|4=>4|5=>5|9=>9|20=>20|37=>48|70=>295|72=>297|75=>299|80=>138|164=>367|n=>n,fun|n=>n⟩
theorem MK:Go.Proofs.Lays.n166 Tryz.prog Fg:={
 mixed:=by kernel_rfl
 f166:=Tryz.func228.trans (congrArg some (by kernel_rfl))
 f240:=Tryz.func272.trans (congrArg some (by kernel_rfl))
 f276:=Tryz.func316.trans (congrArg some (by kernel_rfl))
 t0:=Tryz.underlying0
 a0:=Tryz.isAgg0
 z0:=Tryz.sizeOf0
 v0:=Tryz.zeroValue0
 t3:=Tryz.underlying3
 a3:=Tryz.isAgg3
 z3:=Tryz.sizeOf3
 v3:=Tryz.zeroValue3
 t4:=Tryz.underlying4
 a4:=Tryz.isAgg4
 z4:=Tryz.sizeOf4
 v4:=Tryz.zeroValue4
 t9:=Tryz.underlying9
 a9:=Tryz.isAgg9
 z9:=Tryz.sizeOf9
 v9:=Tryz.zeroValue9
 t20:=Tryz.underlying20
 a20:=Tryz.isAgg20
 z20:=Tryz.sizeOf20
 v20:=Tryz.zeroValue20
 t37:=Tryz.underlying48
 a37:=Tryz.isAgg48
 z37:=Tryz.sizeOf48
 v37:=Tryz.zeroValue48
 t70:=Tryz.underlying295
 a70:=Tryz.isAgg295
 z70:=Tryz.sizeOf295
 v70:=Tryz.zeroValue295
 t72:=Tryz.underlying297
 a72:=Tryz.isAgg297
 z72:=Tryz.sizeOf297
 v72:=Tryz.zeroValue297
 t75:=Tryz.underlying299
 a75:=Tryz.isAgg299
 z75:=Tryz.sizeOf299
 v75:=Tryz.zeroValue299
 t164:=Tryz.underlying367
 a164:=Tryz.isAgg367
 z164:=Tryz.sizeOf367
 v164:=Tryz.zeroValue367}
theorem ML:Go.Proofs.Lays.n167 Tryz.prog Fg:={
 mixed:=by kernel_rfl
 f167:=Tryz.func230.trans (congrArg some (by kernel_rfl))
 f240:=Tryz.func272.trans (congrArg some (by kernel_rfl))
 f276:=Tryz.func316.trans (congrArg some (by kernel_rfl))
 t0:=Tryz.underlying0
 a0:=Tryz.isAgg0
 z0:=Tryz.sizeOf0
 v0:=Tryz.zeroValue0
 t4:=Tryz.underlying4
 a4:=Tryz.isAgg4
 z4:=Tryz.sizeOf4
 v4:=Tryz.zeroValue4
 t5:=Tryz.underlying5
 a5:=Tryz.isAgg5
 z5:=Tryz.sizeOf5
 v5:=Tryz.zeroValue5
 t9:=Tryz.underlying9
 a9:=Tryz.isAgg9
 z9:=Tryz.sizeOf9
 v9:=Tryz.zeroValue9
 t20:=Tryz.underlying20
 a20:=Tryz.isAgg20
 z20:=Tryz.sizeOf20
 v20:=Tryz.zeroValue20
 t37:=Tryz.underlying48
 a37:=Tryz.isAgg48
 z37:=Tryz.sizeOf48
 v37:=Tryz.zeroValue48
 t70:=Tryz.underlying295
 a70:=Tryz.isAgg295
 z70:=Tryz.sizeOf295
 v70:=Tryz.zeroValue295
 t72:=Tryz.underlying297
 a72:=Tryz.isAgg297
 z72:=Tryz.sizeOf297
 v72:=Tryz.zeroValue297
 t75:=Tryz.underlying299
 a75:=Tryz.isAgg299
 z75:=Tryz.sizeOf299
 v75:=Tryz.zeroValue299
 t164:=Tryz.underlying367
 a164:=Tryz.isAgg367
 z164:=Tryz.sizeOf367
 v164:=Tryz.zeroValue367}
theorem BD:Builder.Extra Tryz.prog Fg:={
 sizeBuilder:=by kernel_rfl
 liesBuilder:=by kernel_rfl
 t5:=Tryz.underlying5
 a5:=Tryz.isAgg5
 z5:=Tryz.sizeOf5
 v5:=Tryz.zeroValue5
 infoByte:=by kernel_rfl
 cellsByte:=by kernel_rfl
 sizeByte:=by kernel_rfl
 neB5:=by decide}
def vR (B:Nat) (l:Bs) (w:World):Prop:=Lib.IsBuilderF 297 5 B B (Lib.byteCells l) w
theorem vR.new (w:World):vR w.heap.size [] (w.alloc (.cells #[.pointer none,.slice none 0 0] 297)):=
 Lib.IsBuilderF.of (Or.inl ⟨Nat.le_refl _,.slice none 0 0,heap_alloc_new w _,World.ownsRow_nil _ _ _ _,by simp[Value.ownBlock]⟩)
theorem vR.lt {B:Nat} {l:Bs} {w:World} (h:vR B l w):B<w.heap.size:=h.elim Lib.BuilderAtF.lt Lib.BuilderAtF.lt
theorem vR.drewN {B:Nat} {l:Bs} {w:World} (h:vR B l w) (q:Nat):vR B l (w.drewN q):=h
theorem JM (B:Nat) (l x:Bs) (w:World) (h:vR B l w) (hlen:l.length+x.length≤140737488355328):
  Calls Tryz.prog 228 #[.pointer (some ⟨B,0,none⟩),.string (bs x)] w fun e w'=>e=.returned (.tuple #[.int .i64 x.length,.nilIface])∧vR B (l++x) w'∧Below B w w'∧Lib.OthersKept 5 (some B) w w':=by
 refine(Any.Builder_WriteString_k MK BD B B _ (bs x) w h (by rw[Lib.byteCells_length,iN];exact hlen) (Nat.le_of_lt h.lt)).mono ?_;rintro e w' ⟨rfl,h1,h2,h3⟩;refine⟨by rw[iN],Or.inr ?_,h2,h3⟩;rw[Lib.byteCells_append];have:Lib.strCells (bs x)=Lib.byteCells x:=rfl;rw[←this];exact h1
theorem MN (B:Nat) (l:Bs) (c:UInt8) (w:World) (h:vR B l w) (hlen:l.length+1≤140737488355328):
  Calls Tryz.prog 230 #[.pointer (some ⟨B,0,none⟩),.int .u8 c.toNat] w fun e w'=>e=.returned .nilIface∧vR B (l++[c]) w'∧Below B w w'∧Lib.OthersKept 5 (some B) w w':=by
 refine(Any.Builder_WriteByte_k ML BD B B _ c.toNat w h (by rw[Lib.byteCells_length];exact hlen) (Nat.le_of_lt h.lt)).mono ?_;rintro e w' ⟨rfl,h1,h2,h3⟩;refine⟨rfl,Or.inr ?_,h2,h3⟩;rw[Lib.byteCells_append];have:[Value.int .u8 (c.toNat:Int)]=Lib.byteCells [c]:=rfl;rw[←this];exact h1
theorem Kr (B:Nat) (l:Bs) (w:World) (h:vR B l w):
  Calls Tryz.prog 231 #[.pointer (some ⟨B,0,none⟩)] w fun e w'=>e=.returned (.string (bs l))∧Below B w w':=by
 refine(Tryz.Builder_String_any_k B B l w h (Nat.le_of_lt h.lt)).mono ?_;rintro e w' ⟨rfl,h1,h2,h3⟩;exact⟨rfl,h2⟩
set_option maxHeartbeats 1000000 in
theorem JN (B:Nat) (l s:Bs) (w:World) (h:vR B l w) (hs:s.length<100) (hl:l.length≤1000000):
  Calls Tryz.prog 227 #[.string (bs s),.pointer (some ⟨B,0,none⟩)] w fun e w'=>(∃v,e=.returned v)∧vR B (l++o8 s) w'∧Below B w w'∧Lib.OthersKept 5 (some B) w w':=by
 have hd:(Lib.decDigits s.length).length≤2:=by
  by_cases h1:s.length<10
  ·rw[Lib.decDigits_one h1];simp
  ·rw[Lib.decDigits_two h1 hs];simp
 have HI:Hid (∀w,Calls Tryz.prog 229 #[.int .i64 (s.length:Nat)] w fun e w'=>e=.returned (.string (bs (Lib.decDigits s.length)))∧w'=w):=fun w=>Tryz.strconv_Itoa_small s.length hs w;have H1:=hide (JM B l (Lib.decDigits s.length) w h (by omega));have hz:(bs s).size=s.length:=iN s
 go_enter Tryz.func227,Tryz.ntmps227
 go_wp2_with fail
 refine(HI.out _).mono ?_;rintro e w1 ⟨rfl,rfl⟩
 go_wp2_with fail
 refine H1.out.mono ?_;rintro e w2 ⟨rfl,hB2,hb2,ho2⟩;have H2:=hide (MN B _ 32 w2 hB2 (by rw[List.length_append];omega));have Hb2:=hide hb2;have Ho2:=hide ho2;clear hB2 hb2 ho2
 go_wp2_with fail
 refine H2.out.mono ?_;rintro e w3 ⟨rfl,hB3,hb3,ho3⟩;have H3:=hide (JM B _ s w3 hB3 (by rw[List.length_append,List.length_append,List.length_singleton];omega));have Hb3:=hide hb3;have Ho3:=hide ho3;clear hB3 hb3 ho3
 go_wp2_with fail
 refine H3.out.mono ?_;rintro e w4 ⟨rfl,hB4,hb4,ho4⟩;have HB4:=hide hB4;have Hb4:=hide hb4;have Ho4:=hide ho4;clear hB4 hb4 ho4;go_wp2;go_end0;refine⟨⟨_,rfl⟩,?_,(Hb2.out.trans Hb3.out).trans Hb4.out,(Ho2.out.trans Ho3.out).trans Ho4.out⟩;have e:l++o8 s=l++Lib.decDigits s.length++[32]++s:=by simp[o8]
 rw[e];exact HB4.out
def kM (f:aj):Prop:=f.1.size<100∧f.2.length≤4∧∀s∈f.2,s.size<100
theorem Fh {s:Bs} (h:s.length<100):(o8 s).length≤102:=by
 have hd:(Lib.decDigits s.length).length≤2:=by
  by_cases h1:s.length<10
  ·rw[Lib.decDigits_one h1];simp
  ·rw[Lib.decDigits_two h1 h];simp
 unfold o8;rw[List.length_append,List.length_cons];omega
theorem nX:∀{l:List ByteArray},(∀s∈l,s.size<100)→(gZ l).length≤102*l.length
 |[],_=>by simp[gZ]
 |s::l,h=>by
  have h1:=nX (l:=l) fun t ht=>h t (by simp[ht]);have h2:=Fh (s:=raw s) (by rw[aY];exact h s (by simp));simp only[gZ,List.length_append,List.length_cons];omega
theorem Io {f:aj} (h:kM f):(qN f).length≤510:=by
 have:=nX (l:=f.1::f.2) (fun s hs=>(List.mem_cons.1 hs).elim (fun e=>e▸h.1) (h.2.2 s));have:=h.2.1;simp only[List.length_cons] at*;unfold qN;omega
set_option maxHeartbeats 1000000 in
theorem MO (v:Value) (f:aj) (w:World) (hv:bW w v f) (hs:kM f):
  Calls Tryz.prog 166 #[v] w fun e w'=>e=.returned (.string (bs (qN f)))∧Below w.heap.size w w':=by
 obtain⟨u,rfl,hu⟩:=hv;obtain⟨n,args⟩:=f;obtain⟨a,cap,rfl⟩:=aZ hu;dsimp only at*;have HU:=hide hu;have hl:=hs.2.1;dsimp only at hl;obtain⟨w1,hw1⟩:∃w1,w1=(w.alloc (.cells #[.string n,.slice a args.length cap] 27)).alloc (.cells #[.pointer none,.slice none 0 0] 297):=⟨_,rfl⟩;have hB1:vR (w.heap.size+1) [] w1:=by
  rw[hw1];have:=vR.new (w.alloc (.cells #[.string n,.slice a args.length cap] 27));simpa using this
 have hL1:Later w w1:=by rw[hw1];exact((Later.refl w).alloc _).alloc _
 have hA1:w1.heap[w.heap.size]?=some (.cells #[.string n,.slice a args.length cap] 27 (0,0)):=by
  rw[hw1,Below.heap_alloc _ _ _ (by simp)];exact heap_alloc_new w _
 have H1:=hide (JN (w.heap.size+1) [] (raw n) w1 hB1 (by rw[aY];exact hs.1) (by simp));rw[jo] at H1;have HS:=hide hs;have HB0:=hide hL1.below;have c0:w1.cell? ⟨w.heap.size,0,none⟩=some (.string n):=by rw[cell_of_row _ _ _ _ _ _ hA1];rfl
 have HA1:=hide hA1;rw[hw1] at c0 H1;have hmf:∀(fn:Fn) (first cap:Array Value) (w:World),(Instr.makeFunc fn first cap).run Tryz.prog w=.ok (.func fn first cap) w:=fun _ _ _ _=>rfl;clear hu hs hB1 hL1 hA1
 go_enter Tryz.func166,Tryz.ntmps166
 go_wp2_with fail
 refine H1.out.mono ?_;rintro e w2 ⟨⟨u,rfl⟩,hB2,hb2,ho2⟩;rw[←hw1] at hb2 ho2;have hA2:w2.heap[w.heap.size]?=some (.cells #[.string n,.slice a args.length cap] 27 (0,0)):=ho2 _ _ HA1.out (by simp) (fun c fz e=>by injection e with _ h _;exact absurd h (by decide));have c1:w2.cell? ⟨w.heap.size,1,none⟩=some (.slice a args.length cap):=by rw[cell_of_row _ _ _ _ _ _ hA2];rfl
 have HB2:Hid (vR (w.heap.size+1) (gZ (n::args.take 0)) w2):=by show vR _ _ _;simpa[gZ] using hB2
 have HL2:Hid (Below w.heap.size w w2):=HB0.out.trans (hb2.mono (Nat.le_succ _));clear hB2 hb2 ho2 hA2 c0 H1 HA1 hw1 HB0 hmf;go_wp2
 go_loopg [15] args.length (fun k i wr=>∃j:Nat,j+k=args.length∧i=.int .i64 j∧Hid (vR (w.heap.size+1) (gZ (n::args.take j)) wr)∧Hid (Below w.heap.size w wr))
 case atStart=>exact⟨0,by omega,rfl,HB2,HL2⟩
 case round=>
  obtain⟨j,hj,rfl,HBr,HLr⟩:=hrel
  by_cases hlt:j<args.length
  ·obtain⟨x,hx⟩:∃x,args[j]?=some x:=⟨_,List.getElem?_eq_getElem hlt⟩;have hxm:x∈args:=List.mem_of_getElem? hx;obtain⟨_,a',cap',ea,hc⟩:=HU.out
   injection ea with e1 e2 e3
   subst e1;subst e3;obtain⟨b,off,rfl,hb,hc⟩:=hc (by intro e;rw[e] at hlt;simp at hlt);have d0:wr.cell? ⟨b,off+j,none⟩=some (.string x):=by
    rw[HLr.out.cell (p:=⟨b,off+j,none⟩) hb,hc j hlt,List.getD_eq_getElem?_getD,hx];rfl
   have hx':gZ (n::args.take (j+1))=gZ (n::args.take j)++o8 (raw x):=by
    rw[List.take_add_one,hx,←List.cons_append,ni];simp[gZ]
   have hlen:=nX (l:=n::args.take j) (fun s hs=>(List.mem_cons.1 hs).elim (fun e=>e▸HS.out.1) (fun h=>HS.out.2.2 s (List.mem_of_mem_take h)));rw[List.length_cons,List.length_take] at hlen;have HC:=hide (JN (w.heap.size+1) _ (raw x) wr HBr.out (by rw[aY];exact HS.out.2.2 x hxm) (by omega));rw[←hx',jo] at HC;clear hc hx hx' hlen hxm
   go_wp2_with fail
   refine HC.out.mono ?_;rintro e w4 ⟨⟨u4,rfl⟩,hB4,hb4,_⟩;have HB4:=hide hB4;have Hb4:=hide hb4;clear hB4 hb4;go_wp2
   go_roundg (args.length- (j+1))
   case measure=>omega
   case rel=>exact⟨j+1,by omega,by go_num,HB4,HLr.out.trans (Hb4.out.mono (Nat.le_succ _))⟩
  ·have hj':j=args.length:=by omega
   subst hj';rw[List.take_length] at HBr;have HF:=hide (Kr _ _ wr HBr.out)
   go_wp2_with fail
   refine HF.out.mono ?_;rintro e w5 ⟨rfl,hb5⟩;have Hb5:=hide hb5;clear hb5;go_wp2;go_ret;exact⟨rfl,HLr.out.trans (Hb5.out.mono (Nat.le_succ _))⟩
end Go.Proofs.YtafmbokfkbccaaaGreatDoor
namespace Go.Proofs.YtafmbokfkbccaaaGreatDoor
open Go.RowKit Go.Maps Go.Sort Go.Shelf
attribute [local go_sem] Oper.semAt_some
def MP (D:DataW Two) (ps:List (Bs×Two)):Prop:=(ps.map (·.1)).Nodup∧(∀x,x∈ps.map (·.1)↔Maps.has D (.string x)=true)∧(∀p∈ps,∀zd,D.atKey (.string p.1) zd=.held p.2)∧ps.length≤Maps.size D
set_option maxRecDepth 100000 in
set_option maxHeartbeats 1000000 in
theorem Kt (n:Nat) (hn:1≤n) (l Bm b nn:Nat) (D0:DataW Two) (J Jx:List Two→World→Prop)
  (hY:∀pre x W,J pre W→pre.length<Maps.size D0→YieldAt Fence.wide (n-1) Tryz.prog l #[x9 x] W fun e W'=>
   (e=.returned (.bool true)∧J (pre++[x]) W'∧KeepsWalks W W')∨(e=.returned (.bool false)∧Jx (pre++[x]) W'))
  (W:World) (hJ:AbidesFrom W.heap.size J) (hm:W.cell? ⟨Bm,0,none⟩=some (.map (some b))) (hown:W.ownsMap Tryz.prog 9 jE b nn D0) (h0:J [] W):
  CallsIn Fence.wide n Tryz.prog 233 #[.func (.yield l) #[] #[],.pointer (some ⟨Bm,0,none⟩)] W fun e W'=>(∃v,e=.returned v)∧
   ((∃xs,(∃ps,MP D0 ps∧xs=ps.map (·.2))∧J xs W')∨(∃pre,True∧Jx pre W')):=by
 refine callsIn_of_wp Tryz.func233 rfl trivial ?_ rfl;simp only[Tryz.ntmps233,List.size_toArray,List.length_cons,List.length_nil,Nat.reduceAdd,Nat.reduceSub,Array.replicate_succ,Array.replicate_zero,List.push_toArray,List.append_toArray,List.nil_append,List.cons_append]
 gi_wp2_with (first
  |(gi_at_range;refine wpListIn_range_own _ rfl _ 160 rfl 9 27 (string_keyed Tryz.underlying9) Tryz.underlying160 _ b nn _ rfl hown ?_;intro w0 hrg0 hg0 hs0)
  |gi_in)
 go_frame
 gi_loopw [7] (fun _ wr=>∃(left:Lit→Bool) (cnt:Nat) (ps:List (Bs×Two)),wr.ranges Tryz.prog 9 jE b W.heap.size nn D0 left cnt∧ps.length+cnt≤Maps.size D0∧Collected D0 left (ps.map (·.1))∧(∀p∈ps,∀zd,D0.atKey (.string p.1) zd=.held p.2)∧J (ps.map (·.2)) wr)
  (fun _ wr=>wr.rangeLeft b W.heap.size)
 case atStart=>
  exact⟨_,_,[],hrg0,by simp,Collected.start D0,by simp,hJ [] W w0 none h0 hg0 (fun r e=>by cases e)⟩
 case round=>
  obtain⟨left,cnt,ps,hrg,hcs,hC,hV,hJs⟩:=hrel
  gi_wp2_with (first
   |(gi_at_next;refine wpListIn_next_ranges _ rfl _ rfl 9 (string_keyed Tryz.underlying9) jE encStr x9 (fun key kl hk=>by obtain⟨x,hx,_⟩:=Maps.keyOf_str Tryz.underlying9 hk;exact⟨x,hx⟩) (fun v y hv=>by obtain⟨c,rfl,_⟩:=qO hv;exact⟨c,rfl⟩) b W.heap.size nn _ _ _ rfl hrg ?_ ?_)
   |gi_in)
  ·intro hc0 hl0
   gi_wp2
   go_end0;exact⟨⟨_,rfl⟩,.inl ⟨_,⟨ps,⟨hC.1,fun x=>by rw[hC.2 x,hl0];simp,hV,by omega⟩,rfl⟩,hJs⟩⟩
  ·intro x c1 c2 c3 c4 kl yd yp w2 cnt2 hkey hlk hv hat hrg2 hlt hg2 hs2 hen;obtain⟨x',ex,rfl,_⟩:=Maps.keyOf_str Tryz.underlying9 hkey;obtain rfl:x=x':=encStr_inj ex;obtain⟨c',ec,ez⟩:=qO hv;obtain rfl:=(Im ec).symm;obtain rfl:yd=.held (c1,c2,c3,c4):=(Prod.mk.inj ez).1;have hJ2:J (ps.map (·.2)) w2:=hJ _ wr w2 (some W.heap.size) hJs hg2 (fun r e=>by cases e;exact⟨Nat.le_refl _,hrg.iter_walk⟩);have hk3:KeepsWalks w2 (w2.alloc (.cells #[.string c1,.slice c2 c3 c4] 27)):=(KeepsOthers.alloc _ _).walks;have hJ3:J (ps.map (·.2)) (w2.alloc (.cells #[.string c1,.slice c2 c3 c4] 27)):=hJ _ w2 _ none hJ2 (World.grownBy_alloc w2 _ none) (fun r e=>by cases e);have O1:=hrg2.of_walks hk3;obtain⟨fn,tmps,assign,body,hy,hR⟩:=hY (ps.map (·.2)) (c1,c2,c3,c4) _ hJ3 (by simp;omega);have hen':(Instr.entry (.pointer (some ⟨W.heap.size,0,none⟩))).run Tryz.prog w2=.ok (.tuple #[encStr x,.agg #[.string c1,.slice c2 c3 c4]]) w2:=hen;clear hs2 hen;show wpListIn _ _ _ _ _ _ _ _;unfold x9 at hy⊢;dsimp only at hy⊢
   gi_wp2
   refine hR.mono ?_;have hC2:Collected D0 (fun z=>left z&& !z.sameKey (.string x)) ((ps++[(x,(c1,c2,c3,c4))]).map (·.1)):=by simpa using hC.step hlk hat
   have hV2:∀p∈ps++[(x,(c1,c2,c3,c4))],∀zd,D0.atKey (.string p.1) zd=.held p.2:=fun p hp=>(List.mem_append.1 hp).elim (hV p) (fun e=>by simp only[List.mem_singleton] at e;subst e;exact hat);rintro e W3 (⟨rfl,hJ4,hk4⟩|⟨rfl,hJx3⟩)
   ·gi_wp2
    have hrg3:=O1.of_walks hk4
    go_roundw
    case rel=>exact⟨_,cnt2,ps++[(x,(c1,c2,c3,c4))],hrg3,by simp;omega,hC2,hV2,by simpa using hJ4⟩
    case measure=>rw[hrg3.left_eq,hrg.left_eq];exact hlt
   ·gi_wp2
    refine bodyPost_ret (results_none rfl _ _ _) rfl ?_;exact⟨⟨_,rfl⟩,.inr ⟨_,trivial,hJx3⟩⟩
def iK (l:List Two):List Value:=l.flatMap fun x=>[.string x.1,.slice x.2.1 x.2.2.1 x.2.2.2]
theorem LW (l:List Two):(iK l).length=l.length*2:=by
 induction l with
 |nil=>rfl
 |cons x l ih=>simp only[iK,List.flatMap_cons,List.length_append,List.length_cons,List.length_nil] at ih⊢;omega
theorem vS (l m:List Two):iK (l++m)=iK l++iK m:=by simp[iK]
set_option maxHeartbeats 1000000 in
theorem Ku (mb:Option Nat) (w:World):
  Calls Tryz.prog 168 #[.map mb] w fun e w'=>e=.returned (.func (.func 233) #[] #[.pointer (some ⟨w.heap.size,0,none⟩)])∧w'=w.alloc (.cells #[.map mb] 160):=by
 go_enter Tryz.func168,Tryz.ntmps168
 go_wp2;go_ret;exact⟨rfl,rfl⟩
theorem values_stops (n:Nat) (hn:1≤n) (Bm b nn:Nat) (D0:DataW Two) (w:World) (hBm:Bm<w.heap.size) (hm:w.cell? ⟨Bm,0,none⟩=some (.map (some b))) (hown:w.ownsMap Tryz.prog 9 jE b nn D0):
  SeqStopsK Fence.wide n Tryz.prog 233 #[.pointer (some ⟨Bm,0,none⟩)] (fun x:Two=>#[x9 x]) KeepsWalks (fun xs=>∃ps,MP D0 ps∧xs=ps.map (·.2)) (fun _=>True) (Maps.size D0) w:=
 fun l J Jx W hW hJ _ hY h0=>Kt n hn l Bm b nn D0 J Jx hY W hJ ((hW.cell (p:=⟨Bm,0,none⟩) hBm).trans hm) (eU hown (hW.block b hown.lt)) h0
theorem Kv (B:Nat) (t:TypeId) (cs:Array Value) {X Y:World} {row:Option Nat} (h:X.heap[B]?=some (.cells cs t (0,0))) (hg:X.grownBy Y row) (hr:∀r,row=some r→∃o:Obj,X.heap[r]?=some o∧o.isCells=false):Y.heap[B]?=some (.cells cs t (0,0)):=by
 rw[hg.block B (Array.getElem?_eq_some_iff.1 h).1 (fun e=>by obtain⟨o,ho,hc⟩:=hr B e.symm;rw[h] at ho;cases ho;cases hc)];exact h
theorem Fj:(Tryz.prog.info? 27).map (fun i=>(i.zero,i.size,i.bytes))=some (some (.agg #[.string {data:=#[]},.slice none 0 0]),2,40):=by kernel_rfl
set_option maxRecDepth 100000 in
set_option maxHeartbeats 2000000 in
theorem CZ (b nn Bm:Nat) (D0:DataW Two) (w:World) (hBm:Bm<w.heap.size) (hm:w.cell? ⟨Bm,0,none⟩=some (.map (some b))) (hown:w.ownsMap Tryz.prog 9 jE b nn D0) (hN:Maps.size D0≤3518437208883):
  CallsIn Fence.wide 3 Tryz.prog 232 #[.slice none 0 0,.func (.func 233) #[] #[.pointer (some ⟨Bm,0,none⟩)]] w
   fun e w'=>∃v xs,e=.returned v∧(∃ps,MP D0 ps∧xs=ps.map (·.2))∧w'.ownsRow w.heap.size 27 2 v xs.length (iK xs)∧Below w.heap.size w w':=by
 refine callsIn_of_wp_marks Tryz.func232 rfl trivial ?_ rfl;simp only[Tryz.ntmps232,List.size_toArray,List.length_cons,List.length_nil,Nat.reduceAdd,Nat.reduceSub,Array.replicate_succ,Array.replicate_zero,List.push_toArray,List.append_toArray,List.nil_append,List.cons_append]
 gi_wp2
 have bS:=Boxed.new w 24 (.slice none 0 0);have hB0:Below w.heap.size w (w.alloc (.cells #[.slice none 0 0] 24)):=(Below.refl _ w).alloc (Nat.le_refl _) _;have hsz:(w.alloc (.cells #[.slice none 0 0] 24)).heap.size=w.heap.size+1:=by simp
 obtain⟨W0,hW0⟩:∃W0,w.alloc (.cells #[.slice none 0 0] 24)=W0:=⟨_,rfl⟩;rw[hW0] at bS hB0 hsz⊢;clear hW0;refine wpIn_rangeFunc_ownH rfl (by omega) (gf:=233) (lb:=#[.pointer (some ⟨Bm,0,none⟩)]) rfl trivial (enters_of Tryz.func233 (by kernel_rfl) rfl)
  (values_stops 2 (by omega) Bm b nn D0 W0 (by omega) ((hB0.cell (p:=⟨Bm,0,none⟩) hBm).trans hm) (eU hown (hB0.block b hown.lt))) walksK_t walksK_b (Below.refl _ _) (fun _=>rfl)
  (fun pre W=>(∃v,Boxed W w.heap.size 24 v∧W.ownsRow w.heap.size 27 2 v pre.length (iK pre)∧True)∧Below w.heap.size w W)
  (fun _ _ _=>False)
  (OwnFrom.and (Own.from (holdsRow_own w.heap.size w.heap.size 24 27 2 (fun pre=>pre.length) (fun pre=>iK pre) (fun _ _=>True)) _) (ownFrom_below (Nat.le_refl _) (by omega)))
  (fun _ _ _ _ _ hs _ _=>hs)
  ⟨⟨_,bS,World.ownsRow_nil _ _ _ _,trivial⟩,hB0⟩
  (fun x a' W=>∃Bx,w.heap.size<Bx∧W.heap[Bx]?=some (.cells #[.string x.1,.slice x.2.1 x.2.2.1 x.2.2.2] 27 (0,0))∧a'={tmps:=#[.slice none 0 0,.func (.func 233) #[] #[.pointer (some ⟨Bm,0,none⟩)],.pointer (some ⟨w.heap.size,0,none⟩),undef,.slice none 0 0,.pointer (some ⟨Bx,0,none⟩),.func (.func 233) #[] #[.pointer (some ⟨Bm,0,none⟩)],x9 x,undef,undef,undef,undef,undef],defers:=[]})
  (fun x a' _ X Y row hs hg hr=>by obtain⟨Bx,h1,h2,h3⟩:=hs;exact⟨Bx,h1,Kv Bx _ _ h2 hg (fun r e=>(hr r e).2),h3⟩)
  ?assign ?body ?done ?stop
 case assign=>
  rintro l pre ⟨c1,c2,c3,c4⟩ W K ⟨⟨v,bS1,hrow,_⟩,hB1⟩ hK;unfold x9;dsimp only
  gi_wp2
  exact hK _ _ ((KeepsOthers.alloc _ _).from _) ((KeepsOthers.alloc _ _).walks) ⟨⟨v,bS1.alloc _,hrow.alloc _,trivial⟩,hB1.alloc hB1.size _⟩ ⟨W.heap.size,bS1.lt,World.alloc_heap_new W _,rfl⟩
 case body=>
  rintro l pre ⟨c1,c2,c3,c4⟩ a' W hl ⟨r,hr⟩ ⟨⟨v,bS1,hrow,_⟩,hB1⟩ ⟨Bx,hBx,bX,rfl⟩ hlt;have cS:=bS1.cell;have cX0:W.cell? ⟨Bx,0,none⟩=some (.string c1):=by simp[World.cell?,bX]
  have cX1:W.cell? ⟨Bx,1,none⟩=some (.slice c2 c3 c4):=by simp[World.cell?,bX]
  obtain⟨i0,hi,hz0,hz1,hz2⟩:=info_parts Fj;have hnew:∀j u,[Value.string c1,Value.slice c2 c3 c4][j]?=some u→(W.alloc (.cells #[.string c1,.slice c2 c3 c4] 27)).cell? (Addr.add ⟨W.heap.size,0,none⟩ j)=some u:=fun j u hj=>by
   have hb:=World.alloc_heap_new W (.cells #[.string c1,.slice c2 c3 c4] 27)
   match j,hj with
   |0,hj=>simp at hj;subst hj;show World.cell? _ ⟨W.heap.size,0,none⟩=_;unfold World.cell?;dsimp only;rw[hb];rfl
   |1,hj=>simp at hj;subst hj;show World.cell? _ ⟨W.heap.size,1,none⟩=_;unfold World.cell?;dsimp only;rw[hb];rfl
  have hone:∀u∈[Value.string c1,Value.slice c2 c3 c4],u.oneCell'=true:=fun u hu=>by
   simp at hu;rcases hu with rfl|rfl <;> rfl
  have SF:pre.length+1≤maxLen:=by unfold maxLen;omega
  have hkb:(pre.length+1)*40≤140737488355328:=by omega
  have hsW:=hB1.size
  gi_wp2_with (gi_at_builtin;refine wpListIn_append_own _ rfl _ _ 24 rfl w.heap.size 27 i0 (.agg #[.string {data:=#[]},.slice none 0 0]) 2 40 Tryz.underlying24 hi hz0 hz1 hz2 rfl (by decide) _ _ _ rfl (hrow.alloc _) ⟨W.heap.size,0,none⟩ 1 1 [.string c1,.slice c2 c3 c4] rfl rfl hnew hone SF hkb (by simp;omega) ?_;intro v' w1 hown' hgrow _;obtain⟨g',cap',rfl⟩:=ownsRow_succ hown';obtain⟨hv1,hv2,hr2,hk2,hb2⟩:=bS1.appended (by decide) hrow hB1.size (Nat.le_refl _) hown' hgrow;have hc1:=hv1.cell;have hf1:=hv1.frozen)
  have hr3:(w1.setCell ⟨w.heap.size,0,none⟩ (.slice (some ⟨g',0,none⟩) (pre.length+1) cap')).ownsRow w.heap.size 27 2 (.slice (some ⟨g',0,none⟩) (pre.length+1) cap') (pre++[((c1,c2,c3,c4):Two)]).length (iK (pre++[((c1,c2,c3,c4):Two)])):=by
   rw[vS,List.length_append];exact hr2
  exact⟨hk2.from _,hk2.walks,⟨_,hv2,hr3⟩,hB1.trans hb2⟩
 case done=>
  rintro D zs W hD hS ⟨⟨v,bS1,hrow,_⟩,hB1⟩ hK;have cS:=bS1.cell
  gi_wp2
  refine⟨by simp,.inl ⟨_,_,rfl,run_takeDeferred hK,?_⟩⟩;exact⟨_,results_tmp rfl _ _ _,v,zs,rfl,hS,ownsRow_putObj hrow _ hK rfl,hB1.trans (belowK_b (w:=w) (Nat.le_refl _) W D _ _ (by omega) hK rfl rfl)⟩
 case stop=>
  rintro D c pre W _ _ h _;exact h.elim
set_option maxHeartbeats 1000000 in
theorem Ip (b nn Bm:Nat) (D0:DataW Two) (w:World) (hBm:Bm<w.heap.size) (hm:w.cell? ⟨Bm,0,none⟩=some (.map (some b))) (hown:w.ownsMap Tryz.prog 9 jE b nn D0) (hN:Maps.size D0≤3518437208883):
  Calls Tryz.prog 167 #[.func (.func 233) #[] #[.pointer (some ⟨Bm,0,none⟩)]] w
   fun e w'=>∃v xs,e=.returned v∧(∃ps,MP D0 ps∧xs=ps.map (·.2))∧w'.ownsRow w.heap.size 27 2 v xs.length (iK xs)∧Below w.heap.size w w':=by
 have H:=hide (callsIn_wide.1 (CZ b nn Bm D0 w hBm hm hown hN))
 go_enter Tryz.func167,Tryz.ntmps167
 go_wp2_with fail
 refine H.out.mono ?_;rintro e w1 ⟨v,xs,rfl,h1,h2,h3⟩;have H1:=hide h1;have H2:=hide h2;have H3:=hide h3;clear h1 h2 h3;go_wp2;go_ret;exact⟨v,xs,rfl,H1.out,H2.out,H3.out⟩
theorem tV {w w':World} {v:Value} {l:List ByteArray} (h:Strs w v l) (k:Below w.heap.size w w'):Strs w' v l:=by
 obtain⟨h0,a,cap,rfl,h1⟩:=h;refine⟨h0,a,cap,rfl,fun hl=> ?_⟩;obtain⟨b,off,rfl,hb,hc⟩:=h1 hl;exact⟨b,off,rfl,Nat.lt_of_lt_of_le hb k.size,fun i hi=>by rw[k.cell (p:=⟨b,off+i,none⟩) hb];exact hc i hi⟩
theorem lX {w w':World} {v:Value} {f:aG} (h:bW w v f) (k:Below w.heap.size w w'):bW w' v f:=by
 obtain⟨s,rfl,h1⟩:=h;exact⟨s,rfl,tV h1 k⟩
theorem fF.below {P:Program} {K:TypeId} {w w':World} {b n:Nat} {L:List aj} (h:fF P K w b n L) (k:Below w.heap.size w w'):fF P K w' b n L:=by
 obtain⟨D,h,h1,h2,h3⟩:=h;exact⟨D,eU h (k.block b h.lt),h1,fun f hf=>by obtain⟨x,e,hx⟩:=h2 f hf;exact⟨x,e,lX hx k⟩,h3⟩
theorem yh:∀{l:List Two} {i:Nat} {x:Two},l[i]?=some x→(iK l)[i*2]?=some (.string x.1)∧(iK l)[i*2+1]?=some (.slice x.2.1 x.2.2.1 x.2.2.2)
 |y::l,0,x,h=>by simp at h;subst h;exact⟨rfl,rfl⟩
 |y::l,i+1,x,h=>by
  simp at h;have:=yh h;have e:iK (y::l)=[.string y.1,.slice y.2.1 y.2.2.1 y.2.2.2]++iK l:=rfl;rw[e,show(i+1)*2=2+i*2 by omega,show 2+i*2+1=2+(i*2+1) by omega,List.getElem?_append_right (by simp),List.getElem?_append_right (by simp)];simpa using this
open Classical in
noncomputable def tX (L:List aj) (s:Bs):aj:=if h:∃f∈L,qN f=s then Classical.choose h else aB
theorem nY {L:List aj} {s:Bs} (h:∃f∈L,qN f=s):tX L s∈L∧qN (tX L s)=s:=by
 unfold tX;rw[dif_pos h];exact Classical.choose_spec h
theorem zZ {w w':World} {L:List aj} {v:Value} {D:DataW Two} {ps:List (Bs×Two)} (h1:∀s,Maps.has D (.string s)=true↔∃f∈L,qN f=s) (h2:∀f∈L,∃x,D.atKey (.string (qN f)) .nil=.held x∧bW w (x9 x) f) (h3:Maps.size D≤3518437208883)
  (hA:MP D ps) (hr:w'.ownsRow w.heap.size 27 2 v (ps.map (·.2)).length (iK (ps.map (·.2)))) (hB:Below w.heap.size w w'):∃l:List aj,(∀f,f∈l↔f∈L)∧Facts w' v l:=by
 have hk:∀p∈ps,∃f∈L,qN f=p.1:=fun p hp=>(h1 _).1 ((hA.2.1 _).1 (List.mem_map.2 ⟨p,hp,rfl⟩));refine⟨ps.map fun p=>tX L p.1,fun f=> ?_,?_⟩
 ·rw[List.mem_map]
  constructor
  ·rintro⟨p,hp,rfl⟩;exact(nY (hk p hp)).1
  ·intro hf;obtain⟨p,hp,hpf⟩:=List.mem_map.1 ((hA.2.1 (qN f)).2 ((h1 _).2 ⟨f,hf,rfl⟩));exact⟨p,hp,vQ ((nY (hk p hp)).2.trans hpf)⟩
 ·have hlen:=hA.2.2.2;refine qx.facts (base:=w.heap.size) ⟨iK (ps.map (·.2)),by simpa using hr,fun i hi=> ?_⟩ (by simp;omega);rw[List.length_map] at hi;obtain⟨p,hp⟩:∃p,ps[i]?=some p:=⟨_,List.getElem?_eq_getElem hi⟩;have hpm:p∈ps:=by obtain⟨_,rfl⟩:=List.getElem?_eq_some_iff.1 hp;exact List.getElem_mem _
  have eg:(ps.map fun p=>tX L p.1).getD i aB=tX L p.1:=by
   rw[List.getD_eq_getElem?_getD,List.getElem?_map,hp];rfl
  rw[eg];obtain⟨c0,c1⟩:=yh (l:=ps.map (·.2)) (i:=i) (x:=p.2) (by rw[List.getElem?_map,hp];rfl);obtain⟨g1,g2⟩:=nY (hk p hpm);obtain⟨x,hx,s,hs,hS⟩:=h2 _ g1;rw[g2,hA.2.2.1 p hpm] at hx
  injection hx with hx
  subst hx;unfold x9 at hs
  injection hs with hs
  have hs':=congrArg Array.toList hs;simp only[List.cons.injEq,Value.string.injEq,and_true] at hs';obtain⟨e1,e2⟩:=hs';refine⟨by rw[c0,e1],s,by rw[c1,e2],tV hS hB,fun k hk hne=> ?_⟩;obtain⟨_,a,cap,rfl,hb⟩:=hS;obtain⟨b,off,rfl,hlt,_⟩:=hb hne;simp[Value.ownBlock] at hk;omega
end Go.Proofs.YtafmbokfkbccaaaGreatDoor
namespace Go.Proofs.YtafmbokfkbccaaaGreatDoor
open Go.RowKit Go.Sort
set_option maxHeartbeats 400000 in
theorem C8 (b:Addr) (cap:Nat) (l:List aG) (w:World) (h:Facts w (.slice (some b) l.length cap) l):
  Calls Tryz.prog 98 #[.slice (some b) l.length cap] w fun e w'=>∃v',e=.returned v'∧qx w' w.heap.size v' l∧Later w w':=by
 have hnil:=fun w=>Lib.run_eql_slice_nil (P:=Tryz.prog) w 24 27 (some b) l.length cap 0 0 Tryz.underlying24;have h0:qx (w.alloc (.cells #[] 27)) w.heap.size (.slice (some ⟨w.heap.size,0,none⟩) 0 0) []:=
  ⟨[],World.ownsRow_made w #[] 0 (Nat.le_refl _) (by simp) (by simp),fun i hi=>by simp at hi⟩
 obtain⟨v',w',hrun,hR,hL,_⟩:=h0.append ((Later.refl w).alloc _) h (by have:=h.1;simpa using this);have HR:=hide hrun;have HF:=hide hR;clear hrun hR h0 h
 go_enter Tryz.func98,Tryz.ntmps98
 go_wp2_with (at_builtin;refine wpList_append_run rfl (.tmp 5) (.tmp 6) 24 rfl _ _ _ _ rfl rfl HR.out ?_)
 go_ret;exact⟨v',rfl,HF.out,hL⟩
set_option maxHeartbeats 400000 in
theorem C9 (n cap:Nat) (w:World):
  Calls Tryz.prog 98 #[.slice none n cap] w fun e w'=>e=.returned (.slice none 0 0)∧w'=w:=by
 have hnil:=fun w=>Lib.run_eql_slice_nil (P:=Tryz.prog) w 24 27 none n cap 0 0 Tryz.underlying24
 go_enter Tryz.func98,Tryz.ntmps98
 go_wp2;go_ret;exact⟨rfl,rfl⟩
theorem clone (v:Value) (l:List aG) (w:World) (h:Facts w v l):
  Calls Tryz.prog 98 #[v] w fun e w'=>∃v',e=.returned v'∧qx w' w.heap.size v' l∧Later w w':=by
 obtain⟨a,cap,rfl,hn,hz⟩:=h.addr;cases a with
 |some b=>exact C8 b cap l w h
 |none=>
  rcases hz with rfl|⟨b,off,e⟩
  ·exact(C9 _ cap w).mono fun e w' ⟨he,hw⟩=>⟨_,he,by rw[hw];exact⟨[],World.ownsRow_nil w _ _ _,fun i hi=>by simp at hi⟩,by rw[hw];exact Later.refl _⟩
  ·cases e
end Go.Proofs.YtafmbokfkbccaaaGreatDoor
namespace Go.Proofs
open Go.Shelf
def Tryz.sortFacts_ren:Go.Shelf.Ren:=⟨fun|6=>173|15=>237|14=>236|28=>286|29=>287|20=>278|21=>279|22=>280|23=>281|24=>282|25=>283|26=>284|27=>285|46=>323|47=>324|48=>325|49=>326|50=>327|57=>343|n=>n,fun|22=>24|24=>27|25=>201|3=>3|39=>202|0=>0|53=>343|55=>345|4=>4|46=>337|45=>336|50=>199|5=>5|9=>9|66=>370|70=>374|76=>389|77=>31|n=>n,fun|n=>n⟩
theorem Tryz.sortFacts:Go.Proofs.SlLaysF0.n6 Tryz.prog Tryz.sortFacts_ren:={
 mixed:=by kernel_rfl
 f6:=⟨Tryz.f173.name,by decide,Tryz.func173.trans (congrArg some (by kernel_rfl))⟩
 f14:=⟨Tryz.f236.name,by decide,Tryz.func236.trans (congrArg some (by kernel_rfl))⟩
 f15:=Tryz.func237.trans (congrArg some (by kernel_rfl))
 f20:=⟨Tryz.f278.name,by decide,Tryz.func278.trans (congrArg some (by kernel_rfl))⟩
 f21:=⟨Tryz.f279.name,by decide,Tryz.func279.trans (congrArg some (by kernel_rfl))⟩
 f22:=⟨Tryz.f280.name,by decide,Tryz.func280.trans (congrArg some (by kernel_rfl))⟩
 f23:=⟨Tryz.f281.name,by decide,Tryz.func281.trans (congrArg some (by kernel_rfl))⟩
 f24:=⟨Tryz.f282.name,by decide,Tryz.func282.trans (congrArg some (by kernel_rfl))⟩
 f25:=⟨Tryz.f283.name,by decide,Tryz.func283.trans (congrArg some (by kernel_rfl))⟩
 f26:=⟨Tryz.f284.name,by decide,Tryz.func284.trans (congrArg some (by kernel_rfl))⟩
 f27:=⟨Tryz.f285.name,by decide,Tryz.func285.trans (congrArg some (by kernel_rfl))⟩
 f28:=Tryz.func286.trans (congrArg some (by kernel_rfl))
 f29:=Tryz.func287.trans (congrArg some (by kernel_rfl))
 f46:=⟨Tryz.f323.name,by decide,Tryz.func323.trans (congrArg some (by kernel_rfl))⟩
 f47:=Tryz.func324.trans (congrArg some (by kernel_rfl))
 f48:=Tryz.func325.trans (congrArg some (by kernel_rfl))
 f49:=⟨Tryz.f326.name,by decide,Tryz.func326.trans (congrArg some (by kernel_rfl))⟩
 f50:=⟨Tryz.f327.name,by decide,Tryz.func327.trans (congrArg some (by kernel_rfl))⟩
 f57:=⟨Tryz.f343.name,by decide,Tryz.func343.trans (congrArg some (by kernel_rfl))⟩
 t0:=Tryz.underlying0
 a0:=Tryz.isAgg0
 z0:=Tryz.sizeOf0
 v0:=Tryz.zeroValue0
 t3:=Tryz.underlying3
 a3:=Tryz.isAgg3
 z3:=Tryz.sizeOf3
 v3:=Tryz.zeroValue3
 t4:=Tryz.underlying4
 a4:=Tryz.isAgg4
 z4:=Tryz.sizeOf4
 v4:=Tryz.zeroValue4
 t5:=Tryz.underlying5
 a5:=Tryz.isAgg5
 z5:=Tryz.sizeOf5
 v5:=Tryz.zeroValue5
 t9:=Tryz.underlying9
 a9:=Tryz.isAgg9
 z9:=Tryz.sizeOf9
 v9:=Tryz.zeroValue9
 t22:=Tryz.underlying24
 a22:=Tryz.isAgg24
 z22:=Tryz.sizeOf24
 v22:=Tryz.zeroValue24
 t25:=Tryz.underlying201
 a25:=Tryz.isAgg201
 z25:=Tryz.sizeOf201
 v25:=Tryz.zeroValue201
 t39:=Tryz.underlying202
 a39:=Tryz.isAgg202
 z39:=Tryz.sizeOf202
 v39:=Tryz.zeroValue202
 t45:=Tryz.underlying336
 a45:=Tryz.isAgg336
 z45:=Tryz.sizeOf336
 v45:=Tryz.zeroValue336
 t46:=Tryz.underlying337
 a46:=Tryz.isAgg337
 z46:=Tryz.sizeOf337
 v46:=Tryz.zeroValue337
 t50:=Tryz.underlying199
 a50:=Tryz.isAgg199
 z50:=Tryz.sizeOf199
 v50:=Tryz.zeroValue199
 t53:=Tryz.underlying343
 a53:=Tryz.isAgg343
 z53:=Tryz.sizeOf343
 v53:=Tryz.zeroValue343
 t55:=Tryz.underlying345
 a55:=Tryz.isAgg345
 z55:=Tryz.sizeOf345
 v55:=Tryz.zeroValue345
 t66:=Tryz.underlying370
 a66:=Tryz.isAgg370
 z66:=Tryz.sizeOf370
 v66:=Tryz.zeroValue370
 t70:=Tryz.underlying374
 a70:=Tryz.isAgg374
 z70:=Tryz.sizeOf374
 v70:=Tryz.zeroValue374
 t76:=Tryz.underlying389
 a76:=Tryz.isAgg389
 z76:=Tryz.sizeOf389
 v76:=Tryz.zeroValue389
 t77:=Tryz.underlying31
 a77:=Tryz.isAgg31
 z77:=Tryz.sizeOf31
 v77:=Tryz.zeroValue31}
end Go.Proofs
