import Derived.Shelf.Strings.BuilderK
import Derived.Test.YthngiikhgplldaaGreatDoorJR1
import Derived.Test.YthngiikhgplldaaGreatDoorJR4
import Derived.Test.YthngiikhgplldaaGreatDoorJR5
import Derived.RangeFuncNested
import Derived.RangeFuncBound
import Derived.RangeFuncCalls
import Derived.RangeFuncLeaves
import Derived.Shelf.AbstractIn
import Derived.Shelf.Abstract
import Derived.Sort.MapsRangeIn
import Derived.Sort.KeysCollected
import Derived.Maps.OwnIn
import Derived.Maps.AppendAt
import Derived.WalkKit
import Derived.OwnWalkIn
import Derived.TacticsInMore
import Derived.RegionIn
import Derived.LoopNIn
import Derived.LoopIn
open Go.RowKit Go.Sort Go.Shelf Go.Maps
set_option maxHeartbeats 2000000
set_option maxRecDepth 100000
namespace Go.Proofs.YthngiikhgplldaaGreatDoor
def Bb:Go.Shelf.Ren:=⟨fun|166=>154|167=>156|240=>170|276=>191|n=>n,fun|0=>0|3=>3|4=>4|5=>5|9=>9|20=>20|37=>137|70=>191|72=>193|75=>195|80=>201|164=>229|n=>n,fun|n=>n⟩
theorem GA:Go.Proofs.Lays.n166 Tryz.prog Bb:={
 mixed:=by kernel_rfl
 f166:=Tryz.func154.trans (congrArg some (by kernel_rfl))
 f240:=Tryz.func170.trans (congrArg some (by kernel_rfl))
 f276:=Tryz.func191.trans (congrArg some (by kernel_rfl))
 t0:=Tryz.underlying0
 a0:=Tryz.isAgg0
 z0:=Tryz.sizeOf0
 v0:=Tryz.zeroValue0
 t3:=Tryz.underlying3
 a3:=Tryz.isAgg3
 z3:=Tryz.sizeOf3
 v3:=Tryz.zeroValue3
 t4:=Tryz.underlying4
 a4:=Tryz.isAgg4
 z4:=Tryz.sizeOf4
 v4:=Tryz.zeroValue4
 t9:=Tryz.underlying9
 a9:=Tryz.isAgg9
 z9:=Tryz.sizeOf9
 v9:=Tryz.zeroValue9
 t20:=Tryz.underlying20
 a20:=Tryz.isAgg20
 z20:=Tryz.sizeOf20
 v20:=Tryz.zeroValue20
 t37:=Tryz.underlying137
 a37:=Tryz.isAgg137
 z37:=Tryz.sizeOf137
 v37:=Tryz.zeroValue137
 t70:=Tryz.underlying191
 a70:=Tryz.isAgg191
 z70:=Tryz.sizeOf191
 v70:=Tryz.zeroValue191
 t72:=Tryz.underlying193
 a72:=Tryz.isAgg193
 z72:=Tryz.sizeOf193
 v72:=Tryz.zeroValue193
 t75:=Tryz.underlying195
 a75:=Tryz.isAgg195
 z75:=Tryz.sizeOf195
 v75:=Tryz.zeroValue195
 t164:=Tryz.underlying229
 a164:=Tryz.isAgg229
 z164:=Tryz.sizeOf229
 v164:=Tryz.zeroValue229}
theorem GD:Go.Proofs.Lays.n167 Tryz.prog Bb:={
 mixed:=by kernel_rfl
 f167:=Tryz.func156.trans (congrArg some (by kernel_rfl))
 f240:=Tryz.func170.trans (congrArg some (by kernel_rfl))
 f276:=Tryz.func191.trans (congrArg some (by kernel_rfl))
 t0:=Tryz.underlying0
 a0:=Tryz.isAgg0
 z0:=Tryz.sizeOf0
 v0:=Tryz.zeroValue0
 t4:=Tryz.underlying4
 a4:=Tryz.isAgg4
 z4:=Tryz.sizeOf4
 v4:=Tryz.zeroValue4
 t5:=Tryz.underlying5
 a5:=Tryz.isAgg5
 z5:=Tryz.sizeOf5
 v5:=Tryz.zeroValue5
 t9:=Tryz.underlying9
 a9:=Tryz.isAgg9
 z9:=Tryz.sizeOf9
 v9:=Tryz.zeroValue9
 t20:=Tryz.underlying20
 a20:=Tryz.isAgg20
 z20:=Tryz.sizeOf20
 v20:=Tryz.zeroValue20
 t37:=Tryz.underlying137
 a37:=Tryz.isAgg137
 z37:=Tryz.sizeOf137
 v37:=Tryz.zeroValue137
 t70:=Tryz.underlying191
 a70:=Tryz.isAgg191
 z70:=Tryz.sizeOf191
 v70:=Tryz.zeroValue191
 t72:=Tryz.underlying193
 a72:=Tryz.isAgg193
 z72:=Tryz.sizeOf193
 v72:=Tryz.zeroValue193
 t75:=Tryz.underlying195
 a75:=Tryz.isAgg195
 z75:=Tryz.sizeOf195
 v75:=Tryz.zeroValue195
 t164:=Tryz.underlying229
 a164:=Tryz.isAgg229
 z164:=Tryz.sizeOf229
 v164:=Tryz.zeroValue229}
theorem yE:Builder.Extra Tryz.prog Bb:={
 sizeBuilder:=by kernel_rfl
 liesBuilder:=by kernel_rfl
 t5:=Tryz.underlying5
 a5:=Tryz.isAgg5
 z5:=Tryz.sizeOf5
 v5:=Tryz.zeroValue5
 infoByte:=by kernel_rfl
 cellsByte:=by kernel_rfl
 sizeByte:=by kernel_rfl
 neB5:=by decide}
def sW (B:Nat) (l:Bs) (w:World):Prop:=Lib.IsBuilderF 193 5 B B (Lib.byteCells l) w
theorem sW.new (w:World):sW w.heap.size [] (w.alloc (.cells #[.pointer none,.slice none 0 0] 193)):=
 Lib.IsBuilderF.of (Or.inl ⟨Nat.le_refl _,.slice none 0 0,heap_alloc_new w _,World.ownsRow_nil _ _ _ _,by simp[Value.ownBlock]⟩)
theorem sW.lt {B:Nat} {l:Bs} {w:World} (h:sW B l w):B<w.heap.size:=h.elim Lib.BuilderAtF.lt Lib.BuilderAtF.lt
theorem sW.drewN {B:Nat} {l:Bs} {w:World} (h:sW B l w) (q:Nat):sW B l (w.drewN q):=h
theorem El (B:Nat) (l x:Bs) (w:World) (h:sW B l w) (hlen:l.length+x.length≤140737488355328):
  Calls Tryz.prog 154 #[.pointer (some ⟨B,0,none⟩),.string (bs x)] w fun e w'=>e=.returned (.tuple #[.int .i64 x.length,.nilIface])∧sW B (l++x) w'∧Below B w w'∧Lib.OthersKept 5 (some B) w w':=by
 refine(Any.Builder_WriteString_k GA yE B B _ (bs x) w h (by rw[Lib.byteCells_length,iB];exact hlen) (Nat.le_of_lt h.lt)).mono ?_;rintro e w' ⟨rfl,h1,h2,h3⟩;refine⟨by rw[iB],Or.inr ?_,h2,h3⟩;rw[Lib.byteCells_append];have:Lib.strCells (bs x)=Lib.byteCells x:=rfl;rw[←this];exact h1
theorem GH (B:Nat) (l:Bs) (c:UInt8) (w:World) (h:sW B l w) (hlen:l.length+1≤140737488355328):
  Calls Tryz.prog 156 #[.pointer (some ⟨B,0,none⟩),.int .u8 c.toNat] w fun e w'=>e=.returned .nilIface∧sW B (l++[c]) w'∧Below B w w'∧Lib.OthersKept 5 (some B) w w':=by
 refine(Any.Builder_WriteByte_k GD yE B B _ c.toNat w h (by rw[Lib.byteCells_length];exact hlen) (Nat.le_of_lt h.lt)).mono ?_;rintro e w' ⟨rfl,h1,h2,h3⟩;refine⟨rfl,Or.inr ?_,h2,h3⟩;rw[Lib.byteCells_append];have:[Value.int .u8 (c.toNat:Int)]=Lib.byteCells [c]:=rfl;rw[←this];exact h1
theorem EX (B:Nat) (l:Bs) (w:World) (h:sW B l w):
  Calls Tryz.prog 157 #[.pointer (some ⟨B,0,none⟩)] w fun e w'=>e=.returned (.string (bs l))∧Below B w w':=by
 refine(Tryz.Builder_String_any_k B B l w h (Nat.le_of_lt h.lt)).mono ?_;rintro e w' ⟨rfl,h1,h2,h3⟩;exact⟨rfl,h2⟩
theorem Em (B:Nat) (l s:Bs) (w:World) (h:sW B l w) (hs:s.length<100) (hl:l.length≤1000000):
  Calls Tryz.prog 153 #[.string (bs s),.pointer (some ⟨B,0,none⟩)] w fun e w'=>(∃v,e=.returned v)∧sW B (l++oh s) w'∧Below B w w'∧Lib.OthersKept 5 (some B) w w':=by
 have hd:(Lib.decDigits s.length).length≤2:=by
  by_cases h1:s.length<10
  ·rw[Lib.decDigits_one h1];simp
  rw[Lib.decDigits_two h1 hs];simp
 have HI:Hid (∀w,Calls Tryz.prog 155 #[.int .i64 (s.length:Nat)] w fun e w'=>e=.returned (.string (bs (Lib.decDigits s.length)))∧w'=w):=fun w=>Tryz.strconv_Itoa_small s.length hs w;have H1:=au (El B l (Lib.decDigits s.length) w h (by omega));have hz:(bs s).size=s.length:=iB s
 go_enter Tryz.func153,Tryz.ntmps153
 go_wp2_with fail
 refine(HI.out _).mono ?_;rintro e w1 ⟨rfl,rfl⟩
 go_wp2_with fail
 refine H1.out.mono ?_;rintro e w2 ⟨rfl,hB2,hb2,ho2⟩;have H2:=au (GH B _ 32 w2 hB2 (by rw[List.length_append];omega));have Hb2:=au hb2;have Ho2:=au ho2;clear hB2 hb2 ho2
 go_wp2_with fail
 refine H2.out.mono ?_;rintro e w3 ⟨rfl,hB3,hb3,ho3⟩;have H3:=au (El B _ s w3 hB3 (by rw[List.length_append,List.length_append,List.length_singleton];omega));have Hb3:=au hb3;have Ho3:=au ho3;clear hB3 hb3 ho3
 go_wp2_with fail
 refine H3.out.mono ?_;rintro e w4 ⟨rfl,hB4,hb4,ho4⟩;have HB4:=au hB4;have Hb4:=au hb4;have Ho4:=au ho4;clear hB4 hb4 ho4;go_wp2;go_end0;refine⟨⟨_,rfl⟩,?_,(Hb2.out.trans Hb3.out).trans Hb4.out,(Ho2.out.trans Ho3.out).trans Ho4.out⟩;have e:l++oh s=l++Lib.decDigits s.length++[32]++s:=by simp[oh]
 rw[e];exact HB4.out
def qY (f:aF):Prop:=f.1.size<100∧f.2.length≤4∧∀s∈f.2,s.size<100
theorem Bc {s:Bs} (h:s.length<100):(oh s).length≤102:=by
 have hd:(Lib.decDigits s.length).length≤2:=by
  by_cases h1:s.length<10
  ·rw[Lib.decDigits_one h1];simp
  rw[Lib.decDigits_two h1 h];simp
 unfold oh;rw[List.length_append,List.length_cons];omega
theorem mY:∀{l:List ByteArray},(∀s∈l,s.size<100)→(fO l).length≤102*l.length
 |[],_=>by simp[fO]
 |s::l,h=>by have h1:=mY (l:=l) fun t ht=>h t (by simp[ht]);have h2:=Bc (s:=raw s) (by rw[bK];exact h s (by simp));simp only[fO,List.length_append,List.length_cons];omega
theorem Dm {f:aF} (h:qY f):(oM f).length≤510:=by have:=mY (l:=f.1::f.2) (fun s hs=>(List.mem_cons.1 hs).elim (fun e=>e▸h.1) (h.2.2 s));have:=h.2.1;simp only[List.length_cons] at*;unfold oM;omega
theorem GI (v:Value) (f:aF) (w:World) (hv:dh w v f) (hs:qY f):
  Calls Tryz.prog 126 #[v] w fun e w'=>e=.returned (.string (bs (oM f)))∧Below w.heap.size w w':=by
 obtain⟨u,rfl,hu⟩:=hv;obtain⟨n,args⟩:=f;obtain⟨a,cap,rfl⟩:=bP hu;dsimp only at*;have HU:=au hu;have hl:=hs.2.1;dsimp only at hl;obtain⟨w1,hw1⟩:∃w1,w1=(w.alloc (.cells #[.string n,.slice a args.length cap] 50)).alloc (.cells #[.pointer none,.slice none 0 0] 193):=⟨_,rfl⟩;have hB1:sW (w.heap.size+1) [] w1:=by rw[hw1];have:=sW.new (w.alloc (.cells #[.string n,.slice a args.length cap] 50));simpa using this
 have hL1:aj w w1:=by rw[hw1];exact((aj.refl w).alloc _).alloc _
 have hA1:w1.heap[w.heap.size]?=some (.cells #[.string n,.slice a args.length cap] 50 (0,0)):=by rw[hw1,Below.heap_alloc _ _ _ (by simp)];exact heap_alloc_new w _
 have H1:=au (Em (w.heap.size+1) [] (raw n) w1 hB1 (by rw[bK];exact hs.1) (by simp));rw[kJ] at H1;have HS:=au hs;have HB0:=au hL1.below;have c0:w1.cell? ⟨w.heap.size,0,none⟩=some (.string n):=by rw[cell_of_row _ _ _ _ _ _ hA1];rfl
 have HA1:=au hA1;rw[hw1] at c0 H1;have hmf:∀(fn:Fn) (first cap:Array Value) (w:World),(Instr.makeFunc fn first cap).run Tryz.prog w=.ok (.func fn first cap) w:=fun _ _ _ _=>rfl;clear hu hs hB1 hL1 hA1
 go_enter Tryz.func126,Tryz.ntmps126
 go_wp2_with fail
 refine H1.out.mono ?_;rintro e w2 ⟨⟨u,rfl⟩,hB2,hb2,ho2⟩;rw[←hw1] at hb2 ho2;have hA2:w2.heap[w.heap.size]?=some (.cells #[.string n,.slice a args.length cap] 50 (0,0)):=ho2 _ _ HA1.out (by simp) (fun c fz e=>by injection e with _ h _;exact absurd h (by decide));have c1:w2.cell? ⟨w.heap.size,1,none⟩=some (.slice a args.length cap):=by rw[cell_of_row _ _ _ _ _ _ hA2];rfl
 have HB2:Hid (sW (w.heap.size+1) (fO (n::args.take 0)) w2):=by show sW _ _ _;simpa[fO] using hB2
 have HL2:Hid (Below w.heap.size w w2):=HB0.out.trans (hb2.mono (Nat.le_succ _));clear hB2 hb2 ho2 hA2 c0 H1 HA1 hw1 HB0 hmf;go_wp2
 go_loopg [15] args.length (fun k i wr=>∃j:Nat,j+k=args.length∧i=.int .i64 j∧Hid (sW (w.heap.size+1) (fO (n::args.take j)) wr)∧Hid (Below w.heap.size w wr))
 case atStart=>exact⟨0,by omega,rfl,HB2,HL2⟩
 obtain⟨j,hj,rfl,HBr,HLr⟩:=hrel
 by_cases hlt:j<args.length
 ·obtain⟨x,hx⟩:∃x,args[j]?=some x:=⟨_,List.getElem?_eq_getElem hlt⟩;have hxm:x∈args:=List.mem_of_getElem? hx;obtain⟨_,a',cap',ea,hc⟩:=HU.out
  injection ea with e1 e2 e3
  subst e1;subst e3;obtain⟨b,off,rfl,hb,hc⟩:=hc (by intro e;rw[e] at hlt;simp at hlt);have d0:wr.cell? ⟨b,off+j,none⟩=some (.string x):=by rw[HLr.out.cell (p:=⟨b,off+j,none⟩) hb,hc j hlt,List.getD_eq_getElem?_getD,hx];rfl
  have hx':fO (n::args.take (j+1))=fO (n::args.take j)++oh (raw x):=by rw[List.take_add_one,hx,←List.cons_append,lW];simp[fO]
  have hlen:=mY (l:=n::args.take j) (fun s hs=>(List.mem_cons.1 hs).elim (fun e=>e▸HS.out.1) (fun h=>HS.out.2.2 s (List.mem_of_mem_take h)));rw[List.length_cons,List.length_take] at hlen;have HC:=au (Em (w.heap.size+1) _ (raw x) wr HBr.out (by rw[bK];exact HS.out.2.2 x hxm) (by omega));rw[←hx',kJ] at HC;clear hc hx hx' hlen hxm
  go_wp2_with fail
  refine HC.out.mono ?_;rintro e w4 ⟨⟨u4,rfl⟩,hB4,hb4,_⟩;have HB4:=au hB4;have Hb4:=au hb4;clear hB4 hb4;go_wp2
  go_roundg (args.length- (j+1))
  case measure=>omega
  case rel=>exact⟨j+1,by omega,by go_num,HB4,HLr.out.trans (Hb4.out.mono (Nat.le_succ _))⟩
 have hj':j=args.length:=by omega
 subst hj';rw[List.take_length] at HBr;have HF:=au (EX _ _ wr HBr.out)
 go_wp2_with fail
 refine HF.out.mono ?_;rintro e w5 ⟨rfl,hb5⟩;have Hb5:=au hb5;clear hb5;go_wp2;go_ret;exact⟨rfl,HLr.out.trans (Hb5.out.mono (Nat.le_succ _))⟩
section
attribute [local go_sem] Oper.semAt_some
def GJ (D:DataW Two) (ps:List (Bs×Two)):Prop:=(ps.map (·.1)).Nodup∧(∀x,x∈ps.map (·.1)↔Maps.has D (.string x)=true)∧(∀p∈ps,∀zd,D.atKey (.string p.1) zd=.held p.2)∧ps.length≤Maps.size D
theorem EY (n:Nat) (hn:1≤n) (l Bm b nn:Nat) (D0:DataW Two) (J Jx:List Two→World→Prop)
  (hY:∀pre x W,J pre W→pre.length<Maps.size D0→YieldAt Fence.wide (n-1) Tryz.prog l #[vB x] W fun e W'=>
   (e=.returned (.bool true)∧J (pre++[x]) W'∧KeepsWalks W W')∨(e=.returned (.bool false)∧Jx (pre++[x]) W'))
  (W:World) (hJ:AbidesFrom W.heap.size J) (hm:W.cell? ⟨Bm,0,none⟩=some (.map (some b))) (hown:W.ownsMap Tryz.prog 9 iV b nn D0) (h0:J [] W):
  CallsIn Fence.wide n Tryz.prog 160 #[.func (.yield l) #[] #[],.pointer (some ⟨Bm,0,none⟩)] W fun e W'=>(∃v,e=.returned v)∧
   ((∃xs,(∃ps,GJ D0 ps∧xs=ps.map (·.2))∧J xs W')∨(∃pre,True∧Jx pre W')):=by
 refine callsIn_of_wp Tryz.func160 rfl trivial ?_ rfl;simp only[Tryz.ntmps160,List.size_toArray,List.length_cons,List.length_nil,Nat.reduceAdd,Nat.reduceSub,Array.replicate_succ,Array.replicate_zero,List.push_toArray,List.append_toArray,List.nil_append,List.cons_append]
 gi_wp2_with (first
  |(gi_at_range;refine wpListIn_range_own _ rfl _ 141 rfl 9 50 (string_keyed Tryz.underlying9) Tryz.underlying141 _ b nn _ rfl hown ?_;intro w0 hrg0 hg0 hs0)
  |gi_in)
 go_frame
 gi_loopw [7] (fun _ wr=>∃(left:Lit→Bool) (cnt:Nat) (ps:List (Bs×Two)),wr.ranges Tryz.prog 9 iV b W.heap.size nn D0 left cnt∧ps.length+cnt≤Maps.size D0∧Collected D0 left (ps.map (·.1))∧(∀p∈ps,∀zd,D0.atKey (.string p.1) zd=.held p.2)∧J (ps.map (·.2)) wr)
  (fun _ wr=>wr.rangeLeft b W.heap.size)
 case atStart=>
  exact⟨_,_,[],hrg0,by simp,Collected.start D0,by simp,hJ [] W w0 none h0 hg0 (fun r e=>by cases e)⟩
 obtain⟨left,cnt,ps,hrg,hcs,hC,hV,hJs⟩:=hrel
 gi_wp2_with (first
  |(gi_at_next;refine wpListIn_next_ranges _ rfl _ rfl 9 (string_keyed Tryz.underlying9) iV encStr vB (fun key kl hk=>by obtain⟨x,hx,_⟩:=Maps.keyOf_str Tryz.underlying9 hk;exact⟨x,hx⟩) (fun v y hv=>by obtain⟨c,rfl,_⟩:=oN hv;exact⟨c,rfl⟩) b W.heap.size nn _ _ _ rfl hrg ?_ ?_)
  |gi_in)
 ·intro hc0 hl0
  gi_wp2
  go_end0;exact⟨⟨_,rfl⟩,.inl ⟨_,⟨ps,⟨hC.1,fun x=>by rw[hC.2 x,hl0];simp,hV,by omega⟩,rfl⟩,hJs⟩⟩
 intro x c1 c2 c3 c4 kl yd yp w2 cnt2 hkey hlk hv hat hrg2 hlt hg2 hs2 hen;obtain⟨x',ex,rfl,_⟩:=Maps.keyOf_str Tryz.underlying9 hkey;obtain rfl:x=x':=encStr_inj ex;obtain⟨c',ec,ez⟩:=oN hv;obtain rfl:=(Dh ec).symm;obtain rfl:yd=.held (c1,c2,c3,c4):=(Prod.mk.inj ez).1;have hJ2:J (ps.map (·.2)) w2:=hJ _ wr w2 (some W.heap.size) hJs hg2 (fun r e=>by cases e;exact⟨Nat.le_refl _,hrg.iter_walk⟩);have hk3:KeepsWalks w2 (w2.alloc (.cells #[.string c1,.slice c2 c3 c4] 50)):=(KeepsOthers.alloc _ _).walks;have hJ3:J (ps.map (·.2)) (w2.alloc (.cells #[.string c1,.slice c2 c3 c4] 50)):=hJ _ w2 _ none hJ2 (World.grownBy_alloc w2 _ none) (fun r e=>by cases e);have Ji:=hrg2.of_walks hk3;obtain⟨fn,tmps,assign,body,hy,hR⟩:=hY (ps.map (·.2)) (c1,c2,c3,c4) _ hJ3 (by simp;omega);have hen':(Instr.entry (.pointer (some ⟨W.heap.size,0,none⟩))).run Tryz.prog w2=.ok (.tuple #[encStr x,.agg #[.string c1,.slice c2 c3 c4]]) w2:=hen;clear hs2 hen;show wpListIn _ _ _ _ _ _ _ _;unfold vB at hy⊢;dsimp only at hy⊢
 gi_wp2
 refine hR.mono ?_;have hC2:Collected D0 (fun z=>left z&& !z.sameKey (.string x)) ((ps++[(x,(c1,c2,c3,c4))]).map (·.1)):=by simpa using hC.step hlk hat
 have hV2:∀p∈ps++[(x,(c1,c2,c3,c4))],∀zd,D0.atKey (.string p.1) zd=.held p.2:=fun p hp=>(List.mem_append.1 hp).elim (hV p) (fun e=>by simp only[List.mem_singleton] at e;subst e;exact hat);rintro e W3 (⟨rfl,hJ4,hk4⟩|⟨rfl,hJx3⟩)
 ·gi_wp2
  have hrg3:=Ji.of_walks hk4
  go_roundw
  case rel=>exact⟨_,cnt2,ps++[(x,(c1,c2,c3,c4))],hrg3,by simp;omega,hC2,hV2,by simpa using hJ4⟩
  case measure=>rw[hrg3.left_eq,hrg.left_eq];exact hlt
 gi_wp2
 refine bodyPost_ret (results_none rfl _ _ _) rfl ?_;exact⟨⟨_,rfl⟩,.inr ⟨_,trivial,hJx3⟩⟩
def gT (l:List Two):List Value:=l.flatMap fun x=>[.string x.1,.slice x.2.1 x.2.2.1 x.2.2.2]
theorem Gl (l:List Two):(gT l).length=l.length*2:=by
 induction l with
 |nil=>rfl
 |cons x l ih=>simp only[gT,List.flatMap_cons,List.length_append,List.length_cons,List.length_nil] at ih⊢;omega
theorem sZ (l m:List Two):gT (l++m)=gT l++gT m:=by simp[gT]
theorem EZ (mb:Option Nat) (w:World):
  Calls Tryz.prog 129 #[.map mb] w fun e w'=>e=.returned (.func (.func 160) #[] #[.pointer (some ⟨w.heap.size,0,none⟩)])∧w'=w.alloc (.cells #[.map mb] 141):=by
 go_enter Tryz.func129,Tryz.ntmps129
 go_wp2;go_ret;exact⟨rfl,rfl⟩
theorem values_stops (n:Nat) (hn:1≤n) (Bm b nn:Nat) (D0:DataW Two) (w:World) (hBm:Bm<w.heap.size) (hm:w.cell? ⟨Bm,0,none⟩=some (.map (some b))) (hown:w.ownsMap Tryz.prog 9 iV b nn D0):
  SeqStopsK Fence.wide n Tryz.prog 160 #[.pointer (some ⟨Bm,0,none⟩)] (fun x:Two=>#[vB x]) KeepsWalks (fun xs=>∃ps,GJ D0 ps∧xs=ps.map (·.2)) (fun _=>True) (Maps.size D0) w:=
 fun l J Jx W hW hJ _ hY h0=>EY n hn l Bm b nn D0 J Jx hY W hJ ((hW.cell (p:=⟨Bm,0,none⟩) hBm).trans hm) (dG hown (hW.block b hown.lt)) h0
theorem E5 (B:Nat) (t:TypeId) (cs:Array Value) {X Y:World} {row:Option Nat} (h:X.heap[B]?=some (.cells cs t (0,0))) (hg:X.grownBy Y row) (hr:∀r,row=some r→∃o:Obj,X.heap[r]?=some o∧o.isCells=false):Y.heap[B]?=some (.cells cs t (0,0)):=by rw[hg.block B (Array.getElem?_eq_some_iff.1 h).1 (fun e=>by obtain⟨o,ho,hc⟩:=hr B e.symm;rw[h] at ho;cases ho;cases hc)];exact h
theorem Bd:(Tryz.prog.info? 50).map (fun i=>(i.zero,i.size,i.bytes))=some (some (.agg #[.string {data:=#[]},.slice none 0 0]),2,40):=by kernel_rfl
theorem zD (b nn Bm:Nat) (D0:DataW Two) (w:World) (hBm:Bm<w.heap.size) (hm:w.cell? ⟨Bm,0,none⟩=some (.map (some b))) (hown:w.ownsMap Tryz.prog 9 iV b nn D0) (hN:Maps.size D0≤3518437208883):
  CallsIn Fence.wide 3 Tryz.prog 159 #[.slice none 0 0,.func (.func 160) #[] #[.pointer (some ⟨Bm,0,none⟩)]] w
   fun e w'=>∃v xs,e=.returned v∧(∃ps,GJ D0 ps∧xs=ps.map (·.2))∧w'.ownsRow w.heap.size 50 2 v xs.length (gT xs)∧Below w.heap.size w w':=by
 refine callsIn_of_wp_marks Tryz.func159 rfl trivial ?_ rfl;simp only[Tryz.ntmps159,List.size_toArray,List.length_cons,List.length_nil,Nat.reduceAdd,Nat.reduceSub,Array.replicate_succ,Array.replicate_zero,List.push_toArray,List.append_toArray,List.nil_append,List.cons_append]
 gi_wp2
 have bS:=Boxed.new w 24 (.slice none 0 0);have hB0:Below w.heap.size w (w.alloc (.cells #[.slice none 0 0] 24)):=(Below.refl _ w).alloc (Nat.le_refl _) _;have hsz:(w.alloc (.cells #[.slice none 0 0] 24)).heap.size=w.heap.size+1:=by simp
 obtain⟨W0,hW0⟩:∃W0,w.alloc (.cells #[.slice none 0 0] 24)=W0:=⟨_,rfl⟩;rw[hW0] at bS hB0 hsz⊢;clear hW0;refine wpIn_rangeFunc_ownH rfl (by omega) (gf:=160) (lb:=#[.pointer (some ⟨Bm,0,none⟩)]) rfl trivial (enters_of Tryz.func160 (by kernel_rfl) rfl)
  (values_stops 2 (by omega) Bm b nn D0 W0 (by omega) ((hB0.cell (p:=⟨Bm,0,none⟩) hBm).trans hm) (dG hown (hB0.block b hown.lt))) walksK_t walksK_b (Below.refl _ _) (fun _=>rfl)
  (fun pre W=>(∃v,Boxed W w.heap.size 24 v∧W.ownsRow w.heap.size 50 2 v pre.length (gT pre)∧True)∧Below w.heap.size w W)
  (fun _ _ _=>False)
  (OwnFrom.and (Own.from (holdsRow_own w.heap.size w.heap.size 24 50 2 (fun pre=>pre.length) (fun pre=>gT pre) (fun _ _=>True)) _) (ownFrom_below (Nat.le_refl _) (by omega)))
  (fun _ _ _ _ _ hs _ _=>hs)
  ⟨⟨_,bS,World.ownsRow_nil _ _ _ _,trivial⟩,hB0⟩
  (fun x a' W=>∃Bx,w.heap.size<Bx∧W.heap[Bx]?=some (.cells #[.string x.1,.slice x.2.1 x.2.2.1 x.2.2.2] 50 (0,0))∧a'={tmps:=#[.slice none 0 0,.func (.func 160) #[] #[.pointer (some ⟨Bm,0,none⟩)],.pointer (some ⟨w.heap.size,0,none⟩),undef,.slice none 0 0,.pointer (some ⟨Bx,0,none⟩),.func (.func 160) #[] #[.pointer (some ⟨Bm,0,none⟩)],vB x,undef,undef,undef,undef,undef],defers:=[]})
  (fun x a' _ X Y row hs hg hr=>by obtain⟨Bx,h1,h2,h3⟩:=hs;exact⟨Bx,h1,E5 Bx _ _ h2 hg (fun r e=>(hr r e).2),h3⟩)
  ?assign ?body ?done ?stop
 case assign=>
  rintro l pre ⟨c1,c2,c3,c4⟩ W K ⟨⟨v,bS1,hrow,_⟩,hB1⟩ hK;unfold vB;dsimp only
  gi_wp2
  exact hK _ _ ((KeepsOthers.alloc _ _).from _) ((KeepsOthers.alloc _ _).walks) ⟨⟨v,bS1.alloc _,hrow.alloc _,trivial⟩,hB1.alloc hB1.size _⟩ ⟨W.heap.size,bS1.lt,World.alloc_heap_new W _,rfl⟩
 case body=>
  rintro l pre ⟨c1,c2,c3,c4⟩ a' W hl ⟨r,hr⟩ ⟨⟨v,bS1,hrow,_⟩,hB1⟩ ⟨Bx,hBx,bX,rfl⟩ hlt;have cS:=bS1.cell;have cX0:W.cell? ⟨Bx,0,none⟩=some (.string c1):=by simp[World.cell?,bX]
  have cX1:W.cell? ⟨Bx,1,none⟩=some (.slice c2 c3 c4):=by simp[World.cell?,bX]
  obtain⟨i0,hi,hz0,hz1,hz2⟩:=info_parts Bd;have hnew:∀j u,[Value.string c1,Value.slice c2 c3 c4][j]?=some u→(W.alloc (.cells #[.string c1,.slice c2 c3 c4] 50)).cell? (Addr.add ⟨W.heap.size,0,none⟩ j)=some u:=fun j u hj=>by
   have hb:=World.alloc_heap_new W (.cells #[.string c1,.slice c2 c3 c4] 50)
   match j,hj with
   |0,hj=>simp at hj;subst hj;show World.cell? _ ⟨W.heap.size,0,none⟩=_;unfold World.cell?;dsimp only;rw[hb];rfl
   |1,hj=>simp at hj;subst hj;show World.cell? _ ⟨W.heap.size,1,none⟩=_;unfold World.cell?;dsimp only;rw[hb];rfl
  have hone:∀u∈[Value.string c1,Value.slice c2 c3 c4],u.oneCell'=true:=fun u hu=>by simp at hu;rcases hu with rfl|rfl <;> rfl
  have Lr:pre.length+1≤maxLen:=by unfold maxLen;omega
  have hkb:(pre.length+1)*40≤140737488355328:=by omega
  have hsW:=hB1.size
  gi_wp2_with (gi_at_builtin;refine wpListIn_append_own _ rfl _ _ 24 rfl w.heap.size 50 i0 (.agg #[.string {data:=#[]},.slice none 0 0]) 2 40 Tryz.underlying24 hi hz0 hz1 hz2 rfl (by decide) _ _ _ rfl (hrow.alloc _) ⟨W.heap.size,0,none⟩ 1 1 [.string c1,.slice c2 c3 c4] rfl rfl hnew hone Lr hkb (by simp;omega) ?_;intro v' w1 hown' hgrow _;obtain⟨g',cap',rfl⟩:=ownsRow_succ hown';obtain⟨hv1,hv2,hr2,hk2,hb2⟩:=bS1.appended (by decide) hrow hB1.size (Nat.le_refl _) hown' hgrow;have hc1:=hv1.cell;have hf1:=hv1.frozen)
  have hr3:(w1.setCell ⟨w.heap.size,0,none⟩ (.slice (some ⟨g',0,none⟩) (pre.length+1) cap')).ownsRow w.heap.size 50 2 (.slice (some ⟨g',0,none⟩) (pre.length+1) cap') (pre++[((c1,c2,c3,c4):Two)]).length (gT (pre++[((c1,c2,c3,c4):Two)])):=by rw[sZ,List.length_append];exact hr2
  exact⟨hk2.from _,hk2.walks,⟨_,hv2,hr3⟩,hB1.trans hb2⟩
 case done=>
  rintro D zs W hD hS ⟨⟨v,bS1,hrow,_⟩,hB1⟩ hK;have cS:=bS1.cell
  gi_wp2
  refine⟨by simp,.inl ⟨_,_,rfl,run_takeDeferred hK,?_⟩⟩;exact⟨_,results_tmp rfl _ _ _,v,zs,rfl,hS,ownsRow_putObj hrow _ hK rfl,hB1.trans (belowK_b (w:=w) (Nat.le_refl _) W D _ _ (by omega) hK rfl rfl)⟩
 case stop=>
  rintro D c pre W _ _ h _;exact h.elim
theorem Dn (b nn Bm:Nat) (D0:DataW Two) (w:World) (hBm:Bm<w.heap.size) (hm:w.cell? ⟨Bm,0,none⟩=some (.map (some b))) (hown:w.ownsMap Tryz.prog 9 iV b nn D0) (hN:Maps.size D0≤3518437208883):
  Calls Tryz.prog 128 #[.func (.func 160) #[] #[.pointer (some ⟨Bm,0,none⟩)]] w
   fun e w'=>∃v xs,e=.returned v∧(∃ps,GJ D0 ps∧xs=ps.map (·.2))∧w'.ownsRow w.heap.size 50 2 v xs.length (gT xs)∧Below w.heap.size w w':=by
 have H:=au (callsIn_wide.1 (zD b nn Bm D0 w hBm hm hown hN))
 go_enter Tryz.func128,Tryz.ntmps128
 go_wp2_with fail
 refine H.out.mono ?_;rintro e w1 ⟨v,xs,rfl,h1,h2,h3⟩;have H1:=au h1;have H2:=au h2;have H3:=au h3;clear h1 h2 h3;go_wp2;go_ret;exact⟨v,xs,rfl,H1.out,H2.out,H3.out⟩
theorem qZ {w w':World} {v:Value} {l:List ByteArray} (h:Strs w v l) (k:Below w.heap.size w w'):Strs w' v l:=by obtain⟨h0,a,cap,rfl,h1⟩:=h;refine⟨h0,a,cap,rfl,fun hl=>?_⟩;obtain⟨b,off,rfl,hb,hc⟩:=h1 hl;exact⟨b,off,rfl,Nat.lt_of_lt_of_le hb k.size,fun i hi=>by rw[k.cell (p:=⟨b,off+i,none⟩) hb];exact hc i hi⟩
theorem lu {w w':World} {v:Value} {f:aG} (h:dh w v f) (k:Below w.heap.size w w'):dh w' v f:=by obtain⟨s,rfl,h1⟩:=h;exact⟨s,rfl,qZ h1 k⟩
theorem eU.below {P:Program} {K:TypeId} {w w':World} {b n:Nat} {L:List aF} (h:eU P K w b n L) (k:Below w.heap.size w w'):eU P K w' b n L:=by obtain⟨D,h,h1,h2,h3⟩:=h;exact⟨D,dG h (k.block b h.lt),h1,fun f hf=>by obtain⟨x,e,hx⟩:=h2 f hf;exact⟨x,e,lu hx k⟩,h3⟩
theorem vF:∀{l:List Two} {i:Nat} {x:Two},l[i]?=some x→(gT l)[i*2]?=some (.string x.1)∧(gT l)[i*2+1]?=some (.slice x.2.1 x.2.2.1 x.2.2.2)
 |y::l,0,x,h=>by simp at h;subst h;exact⟨rfl,rfl⟩
 |y::l,i+1,x,h=>by simp at h;have:=vF h;have e:gT (y::l)=[.string y.1,.slice y.2.1 y.2.2.1 y.2.2.2]++gT l:=rfl;rw[e,show(i+1)*2=2+i*2 by omega,show 2+i*2+1=2+(i*2+1) by omega,List.getElem?_append_right (by simp),List.getElem?_append_right (by simp)];simpa using this
open Classical in
noncomputable def ru (L:List aF) (s:Bs):aF:=if h:∃f∈L,oM f=s then Classical.choose h else aA
theorem mZ {L:List aF} {s:Bs} (h:∃f∈L,oM f=s):ru L s∈L∧oM (ru L s)=s:=by unfold ru;rw[dif_pos h];exact Classical.choose_spec h
theorem xu {w w':World} {L:List aF} {v:Value} {D:DataW Two} {ps:List (Bs×Two)} (h1:∀s,Maps.has D (.string s)=true↔∃f∈L,oM f=s) (h2:∀f∈L,∃x,D.atKey (.string (oM f)) .nil=.held x∧dh w (vB x) f) (h3:Maps.size D≤3518437208883)
  (hA:GJ D ps) (hr:w'.ownsRow w.heap.size 50 2 v (ps.map (·.2)).length (gT (ps.map (·.2)))) (hB:Below w.heap.size w w'):∃l:List aF,(∀f,f∈l↔f∈L)∧Facts w' v l:=by
 have hk:∀p∈ps,∃f∈L,oM f=p.1:=fun p hp=>(h1 _).1 ((hA.2.1 _).1 (List.mem_map.2 ⟨p,hp,rfl⟩));refine⟨ps.map fun p=>ru L p.1,fun f=>?_,?_⟩
 ·rw[List.mem_map]
  constructor
  ·rintro⟨p,hp,rfl⟩;exact(mZ (hk p hp)).1
  intro hf;obtain⟨p,hp,hpf⟩:=List.mem_map.1 ((hA.2.1 (oM f)).2 ((h1 _).2 ⟨f,hf,rfl⟩));exact⟨p,hp,sQ ((mZ (hk p hp)).2.trans hpf)⟩
 have hlen:=hA.2.2.2;refine iO.facts (base:=w.heap.size) ⟨gT (ps.map (·.2)),by simpa using hr,fun i hi=>?_⟩ (by simp;omega);rw[List.length_map] at hi;obtain⟨p,hp⟩:∃p,ps[i]?=some p:=⟨_,List.getElem?_eq_getElem hi⟩;have hpm:p∈ps:=by obtain⟨_,rfl⟩:=List.getElem?_eq_some_iff.1 hp;exact List.getElem_mem _
 have eg:(ps.map fun p=>ru L p.1).getD i aA=ru L p.1:=by rw[List.getD_eq_getElem?_getD,List.getElem?_map,hp];rfl
 rw[eg];obtain⟨c0,c1⟩:=vF (l:=ps.map (·.2)) (i:=i) (x:=p.2) (by rw[List.getElem?_map,hp];rfl);obtain⟨g1,g2⟩:=mZ (hk p hpm);obtain⟨x,hx,s,hs,hS⟩:=h2 _ g1;rw[g2,hA.2.2.1 p hpm] at hx
 injection hx with hx
 subst hx;unfold vB at hs
 injection hs with hs
 have hs':=congrArg Array.toList hs;simp only[List.cons.injEq,Value.string.injEq,and_true] at hs';obtain⟨e1,e2⟩:=hs';refine⟨by rw[c0,e1],s,by rw[c1,e2],qZ hS hB,fun k hk hne=>?_⟩;obtain⟨_,a,cap,rfl,hb⟩:=hS;obtain⟨b,off,rfl,hlt,_⟩:=hb hne;simp[Value.ownBlock] at hk;omega
end
def pick (p:Nat→Bool) (l:List aG):Nat→List aG
 |0=>[]
 |k+1=>if p k then pick p l k++[l.getD k aA] else pick p l k
theorem xw (p:Nat→Bool) (l:List aG):∀k,(pick p l k).length≤k
 |0=>Nat.le_refl _
 |k+1=>by have:=xw p l k;unfold pick;split <;> simp <;> omega
structure GK (g:Nat) (cb:Array Value) (lo hi:Nat) (w0:World) (l:List aG) (p:Nat→Bool) (S:Nat→World→Prop):Prop where
 ask:∀k w' v,k<l.length→aj w0 w'→hi≤w'.heap.size→S k w'→dh w0 v (l.getD k aA)→
  Calls Tryz.prog g (#[v]++cb) w' fun e w''=>e=.returned (.bool (p k))∧Only lo hi w' w''∧S (k+1) w''
 kept:∀k w' w'',S k w'→(∀j,j<hi→w''.heap[j]?=w'.heap[j]?)→w'.heap.size≤w''.heap.size→S k w''
theorem keep (g:Nat) (cb:Array Value) (eg:∀args w,(callFunc g args).run Tryz.prog w=.ok (.enter g args) w) (lo hi:Nat) (w0 w:World) (v:Value) (l:List aG) (p:Nat→Bool) (S:Nat→World→Prop)
  (hf:Facts w0 v l) (h0:aj w0 w) (hlo:w0.heap.size≤lo) (hhi:hi≤w.heap.size) (hA:GK g cb lo hi w0 l p S) (hS:S 0 w):
  Calls Tryz.prog 32 #[v,.func (.func g) #[] cb] w fun e w'=>∃v',e=.returned v'∧dR w' w.heap.size v' (pick p l l.length)∧Only lo hi w w'∧S l.length w':=by
 have HF:=au hf;have HA:=au hA;have HS:=au hS;obtain⟨a,cap,rfl,hn,hz⟩:=hf.addr;clear hf hA hS
 go_enter Tryz.func32,Tryz.ntmps32
 go_wp2
 go_loopw [5,10] (fun o i wr=>∃k:Nat,k≤l.length∧i=.int .i64 k∧Hid (dR wr w.heap.size o (pick p l k))∧Hid (Only lo hi w wr)∧Hid (S k wr)) (fun _ i _=>l.length- (intOf i).toNat)
 case atStart=>exact⟨0,by omega,rfl,dR.nil _ _,Only.refl _ _ _,HS⟩
 obtain⟨k,hk,rfl,HO,HW,HK⟩:=hrel
 by_cases hlt:k<l.length
 ·rcases hz with rfl|⟨b,off,rfl⟩;·simp at hlt
  have hL0:aj w0 wr:=HW.out.later h0 hlo;obtain⟨hb0,ax,lx,cx,g1,g2,fx⟩:=HF.out.at hlt;have hb:b<wr.heap.size:=Nat.lt_of_lt_of_le hb0 hL0.size;rw[←hL0.cell (p:=⟨b,off+k*2,none⟩) hb0] at g1;rw[←hL0.cell (p:=⟨b,off+k*2+1,none⟩) hb0] at g2;have hltz:(k:Int)<(l.length:Int):=by omega
  have hwr:w.heap.size≤wr.heap.size:=HW.out.size;have hp:pick p l (k+1)=if p k then pick p l k++[l.getD k aA] else pick p l k:=rfl;have hpl:=xw p l k;have hlast:pick p l (k+1)=pick p l (k+1):=rfl;generalize hfk:l.getD k aA=f at*;have HFK:=au hfk;have HP:=au hp;clear hfk hp hlast;obtain⟨nk,lk⟩:=f;dsimp only at*;have hcall:=fun w' (h1:aj w0 w') (h2:hi≤w'.heap.size) (h3:S k w')=>HA.out.ask k w' (.agg #[.string nk,.slice ax lx cx]) hlt h1 h2 h3 (by rw[HFK.out];exact fx);have HC:=au hcall;clear hcall;have hS1:S k (wr.alloc (.cells #[.string nk,.slice ax lx cx] 50)):=HA.out.kept k wr _ HK.out (fun j hj=>Below.heap_alloc _ _ _ (by omega)) (by simp)
  go_wp2_with fail
  refine(HC.out _ (hL0.alloc _) (by simp;omega) hS1).mono ?_;rintro e w1 ⟨rfl,hO1,hS2⟩;have z0:w1.cell? ⟨wr.heap.size,0,none⟩=some (.string nk):=by rw[hO1.cell (by simp) (Or.inr (by show hi≤wr.heap.size;omega))];simp
  have z1:w1.cell? ⟨wr.heap.size,1,none⟩=some (.slice ax lx cx):=by rw[hO1.cell (by simp) (Or.inr (by show hi≤wr.heap.size;omega))];simp
  have hsz:wr.heap.size<w1.heap.size:=by have:=hO1.size;simp at this;omega
  have hW1:Only lo hi w w1:=HW.out.trans ((((aj.refl wr).alloc _).only).trans hO1);have hOw:dR w1 w.heap.size u5 (pick p l k):=((HO.out.later ((aj.refl wr).alloc _)).only hO1 hhi);have hL1:aj w0 w1:=hW1.later h0 hlo;have HO1:=au hOw;have HW1:=au hW1;have HS2:=au hS2;clear hOw hW1 hS2;cases hpk:p k
  ·have HN:Hid (pick p l (k+1)=pick p l k):=by show _=_;rw[HP.out,hpk];rfl
   go_wp2
   go_roundw
   case rel=>exact⟨k+1,by omega,by go_num,(by rw[HN.out];exact HO1.out:dR _ _ _ _),HW1,HS2⟩
   case measure=>simp[intOf];omega
  have HN:Hid (pick p l (k+1)=pick p l k++[(nk,lk)]):=by show _=_;rw[HP.out,hpk];rfl
  go_wp2_with fail
  refine(copied _ (nk,lk) _ (fx.later hL1)).mono ?_;rintro e w2 ⟨sv,rfl,hs,hL2,hsb⟩;have HO2:=au (HO1.out.later hL2);obtain⟨a3,c3,rfl⟩:=bP hs;obtain⟨v',w',hrun,hO3,hg3,hd3⟩:=HO2.out.append (nk,lk) _ hs (fun q hq=>⟨by have:=(hsb q hq).1;omega,(hsb q hq).2,fun e=>by obtain⟨xs,ho,_⟩:=HO1.out;have:=(ho.lt q e).2;have:=(hsb q hq).1;omega⟩) (by omega) (by have:=hL2.size;omega) rfl
  dsimp only at hrun hg3 hd3;have hown:∀q,u5.ownBlock=some q→w.heap.size≤q:=fun q e=>by obtain⟨xs,ho,_⟩:=HO1.out;exact(ho.lt q e).1
  have HR:=au hrun;have HW3:Hid (Only lo hi w w'):=Only.grown (HW1.out.trans ((hL2.alloc _).only)) hg3 hd3 hown rfl rfl;have HO3:=au hO3;have HS3:Hid (S (k+1) w'):=HA.out.kept (k+1) w1 _ HS2.out (fun j hj=>by rw[hg3.block j (by have:=hL2.size;simp;omega) (fun e=>by have:=hown j e.symm;omega),Below.heap_alloc _ _ _ (by have:=hL2.size;omega)];exact hL2.block (by omega)) (by have:=hg3.size;have:=hL2.size;simp at*;omega)
  clear hrun hO3 hg3
  go_wp2_with (at_builtin;refine wpList_append_run rfl (.tmp 17) (.tmp 20) 24 rfl _ _ _ _ rfl rfl HR.out ?_)
  go_roundw
  case rel=>exact⟨k+1,by omega,by go_num,(by rw[HN.out];exact HO3.out:dR _ _ _ _),HW3,HS3⟩
  case measure=>simp[intOf];omega
 go_wp2;go_ret;obtain rfl:k=l.length:=by omega
 exact⟨_,rfl,HO.out,HW.out,HK.out⟩
def iW (s:List aG):Prop:=s.Pairwise fun a b=>fF a b<0
theorem Jj {a b c:aG} (h:fF a b≤0) (k:fF b c<0):fF a c<0:=by
 by_cases e:fF a b=0
 ·rw[aV.zero _ _ e];exact k
 exact aV.trans a b c (by omega) k
theorem lt_irrefl {a:aG} (h:fF a a<0):False:=by rw[aV.refl] at h;omega
theorem E8 {a b:aG} (h:fF a b<0) (k:fF b a<0):False:=lt_irrefl (aV.trans a b a h k)
theorem iW.ext:∀{s t:List aG},iW s→iW t→(∀f,f∈s↔f∈t)→s=t
 |[],[],_,_,_=>rfl
 |[],b::t,_,_,h=>by have:=(h b).2 (List.mem_cons_self ..);cases this
 |a::s,[],_,_,h=>by have:=(h a).1 (List.mem_cons_self ..);cases this
 |a::s,b::t,hs,ht,h=>by
  have hs':=List.pairwise_cons.1 hs;have ht':=List.pairwise_cons.1 ht;have e:a=b:=by
   rcases List.mem_cons.1 ((h a).1 (List.mem_cons_self ..)) with e|e;·exact e
   rcases List.mem_cons.1 ((h b).2 (List.mem_cons_self ..)) with e'|e';·exact e'.symm
   exact absurd (ht'.1 a e) fun k=>E8 k (hs'.1 b e')
  subst e;rw[iW.ext hs'.2 ht'.2 fun f=>⟨fun hf=>?_,fun hf=>?_⟩]
  ·rcases List.mem_cons.1 ((h f).1 (List.mem_cons_of_mem _ hf)) with e|e;·subst e;exact absurd (hs'.1 f hf) lt_irrefl
   exact e
  rcases List.mem_cons.1 ((h f).2 (List.mem_cons_of_mem _ hf)) with e|e;·subst e;exact absurd (ht'.1 f hf) lt_irrefl
  exact e
def iX (s l:List aG):Prop:=iW s∧(∀f,f∈s↔f∈l)∧s.length≤l.length
theorem getD_mem_take {l:List aG} {i k:Nat} (hi:i<k) (hk:k≤l.length):l.getD i aA∈l.take k:=by rw[List.getD_eq_getElem?_getD,List.getElem?_eq_getElem (by omega)];exact List.mem_take_iff_getElem.2 ⟨i,by omega,rfl⟩
theorem l6 {l:List aG} {k:Nat} {f:aG} (h:f∈l.take k):∃i,i<k∧i<l.length∧f=l.getD i aA:=by obtain⟨i,hi,rfl⟩:=List.mem_take_iff_getElem.1 h;exact⟨i,by omega,by omega,by rw[List.getD_eq_getElem?_getD,List.getElem?_eq_getElem (by omega)];rfl⟩
theorem take_succ {l:List aG} {k:Nat} (h:k<l.length):l.take (k+1)=l.take k++[l.getD k aA]:=by rw[List.take_succ_eq_append_getElem h,List.getD_eq_getElem?_getD,List.getElem?_eq_getElem h];rfl
theorem oW {l:List aG} (h:l.Pairwise fun a b=>fF a b≤0) {i j:Nat} (hij:i≤j) (hj:j<l.length):fF (l.getD i aA) (l.getD j aA)≤0:=by
 by_cases e:i=j
 ·subst e;rw[aV.refl];exact Int.le_refl _
 have:=List.pairwise_iff_getElem.1 h i j (by omega) hj (by omega);rw[List.getD_eq_getElem?_getD,List.getD_eq_getElem?_getD,List.getElem?_eq_getElem (by omega),List.getElem?_eq_getElem hj];exact this
def newP (l:List aG) (k:Nat):Bool:=decide (k=0)|| !decide (fF (l.getD (k-1) aA) (l.getD k aA)=0)
theorem yF {l:List aG} (h:l.Pairwise fun a b=>fF a b≤0):∀k,k≤l.length→iX (pick (newP l) l k) (l.take k)
 |0,_=>⟨List.Pairwise.nil,fun f=>by simp[pick],by simp[pick]⟩
 |k+1,hk=>by
  obtain⟨i1,i2,_⟩:=yF h k (by omega);have hlen:(pick (newP l) l (k+1)).length≤(l.take (k+1)).length:=by have:=xw (newP l) l (k+1);rw[List.length_take];omega
  rw[take_succ (by omega)] at hlen;rw[take_succ (by omega)];cases hp:newP l k with
  |true=>
   have e:pick (newP l) l (k+1)=pick (newP l) l k++[l.getD k aA]:=by simp[pick,hp]
   rw[e];refine⟨?_,fun f=>by rw[List.mem_append,List.mem_append,i2 f],by rw[←e];exact hlen⟩;unfold iW;rw[List.pairwise_append];refine⟨i1,List.pairwise_singleton _ _,fun a ha b hb=>?_⟩;rw[List.mem_singleton] at hb;subst hb;obtain⟨i,hi,hil,rfl⟩:=l6 ((i2 a).1 ha);refine Jj (oW h (i:=i) (j:=k-1) (by omega) (by omega)) ?_;have h1:=oW h (i:=k-1) (j:=k) (by omega) (by omega);have h2:fF (l.getD (k-1) aA) (l.getD k aA)≠0:=by intro e;unfold newP at hp;rw[decide_eq_true e,decide_eq_false (by omega)] at hp;cases hp
   omega
  |false=>
   have e:pick (newP l) l (k+1)=pick (newP l) l k:=by simp[pick,hp]
   rw[e];refine⟨i1,fun f=>?_,by rw[←e];exact hlen⟩;rw[i2 f,List.mem_append,List.mem_singleton];refine⟨Or.inl,fun hf=>hf.elim id fun hf=>?_⟩;unfold newP at hp;rw[Bool.or_eq_false_iff,decide_eq_false_iff_not,Bool.not_eq_false',decide_eq_true_eq] at hp;have:=aV.zero _ _ hp.2;rw[hf,←this];exact getD_mem_take (by omega) (by omega)
theorem oZ (q:aG→Bool) (l:List aG):∀k,k≤l.length→pick (fun i=>q (l.getD i aA)) l k=(l.take k).filter q
 |0,_=>by simp[pick]
 |k+1,hk=>by have e:pick (fun i=>q (l.getD i aA)) l (k+1)=if q (l.getD k aA) then pick (fun i=>q (l.getD i aA)) l k++[l.getD k aA] else pick (fun i=>q (l.getD i aA)) l k:=rfl;rw[e,take_succ (by omega),List.filter_append,←oZ q l k (by omega)];generalize l.getD k aA=x;cases hq:q x <;> simp[hq]
end Go.Proofs.YthngiikhgplldaaGreatDoor
