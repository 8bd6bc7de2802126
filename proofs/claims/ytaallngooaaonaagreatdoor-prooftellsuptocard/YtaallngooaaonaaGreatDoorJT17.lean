import Derived.RangeFuncNested
import Derived.RangeFuncBound
import Derived.RangeFuncCalls
import Derived.RangeFuncLeaves
import Derived.Shelf.AbstractIn
import Derived.Shelf.Abstract
import Derived.Sort.MapsRangeIn
import Derived.Sort.KeysCollected
import Derived.Maps.OwnIn
import Derived.Maps.AppendAt
import Derived.WalkKit
import Derived.OwnWalkIn
import Derived.TacticsInMore
import Derived.RegionIn
import Derived.LoopNIn
import Derived.LoopIn
import Derived.Test.YtaallngooaaonaaGreatDoorJT16
import Derived.Test.YtaallngooaaonaaGreatDoorJT2
import Derived.Test.YtaallngooaaonaaGreatDoorJT13
import Derived.Lib.SliceRun
import Derived.Shelf.SlSortCmp.WholeK
import Derived.Test.YtaallngooaaonaaGreatDoorProg
import Derived.Shelf.SlSortCmp.NoneTotal
open Go.RowKit Go.Maps Go.Sort Go.Shelf
set_option maxHeartbeats 2000000
set_option maxRecDepth 100000
namespace Go.Proofs.YtaallngooaaonaaGreatDoor
section
attribute [local go_sem] Oper.semAt_some
def Qr (D:DataW Two) (ps:List (Bs×Two)):Prop:=(ps.map (·.1)).Nodup∧(∀x,x∈ps.map (·.1)↔Maps.has D (.string x)=true)∧(∀p∈ps,∀zd,D.atKey (.string p.1) zd=.held p.2)∧ps.length≤Maps.size D
theorem NH (n:Nat) (hn:1≤n) (l Bm b nn:Nat) (D0:DataW Two) (J Jx:List Two→World→Prop)
  (hY:∀pre x W,J pre W→pre.length<Maps.size D0→YieldAt Fence.wide (n-1) Tryz.prog l #[Av x] W fun e W'=>
   (e=.returned (.bool true)∧J (pre++[x]) W'∧KeepsWalks W W')∨(e=.returned (.bool false)∧Jx (pre++[x]) W'))
  (W:World) (hJ:AbidesFrom W.heap.size J) (hm:W.cell? ⟨Bm,0,none⟩=some (.map (some b))) (hown:W.ownsMap Tryz.prog 9 ku b nn D0) (h0:J [] W):
  CallsIn Fence.wide n Tryz.prog 145 #[.func (.yield l) #[] #[],.pointer (some ⟨Bm,0,none⟩)] W fun e W'=>(∃v,e=.returned v)∧
   ((∃xs,(∃ps,Qr D0 ps∧xs=ps.map (·.2))∧J xs W')∨(∃pre,True∧Jx pre W')):=by
 refine callsIn_of_wp Tryz.func145 rfl trivial ?_ rfl;simp only[Tryz.ntmps145,List.size_toArray,List.length_cons,List.length_nil,Nat.reduceAdd,Nat.reduceSub,Array.replicate_succ,Array.replicate_zero,List.push_toArray,List.append_toArray,List.nil_append,List.cons_append]
 gi_wp2_with (first
  |(gi_at_range;refine wpListIn_range_own _ rfl _ 144 rfl 9 27 (string_keyed Tryz.underlying9) Tryz.underlying144 _ b nn _ rfl hown ?_;intro w0 hrg0 hg0 hs0)
  |gi_in)
 go_frame
 gi_loopw [7] (fun _ wr=>∃(left:Lit→Bool) (cnt:Nat) (ps:List (Bs×Two)),wr.ranges Tryz.prog 9 ku b W.heap.size nn D0 left cnt∧ps.length+cnt≤Maps.size D0∧Collected D0 left (ps.map (·.1))∧(∀p∈ps,∀zd,D0.atKey (.string p.1) zd=.held p.2)∧J (ps.map (·.2)) wr)
  (fun _ wr=>wr.rangeLeft b W.heap.size)
 case atStart=>
  exact⟨_,_,[],hrg0,by simp,Collected.start D0,by simp,hJ [] W w0 none h0 hg0 (fun r e=>by cases e)⟩
 obtain⟨left,cnt,ps,hrg,hcs,hC,hV,hJs⟩:=hrel
 gi_wp2_with (first
  |(gi_at_next;refine wpListIn_next_ranges _ rfl _ rfl 9 (string_keyed Tryz.underlying9) ku encStr Av (fun key kl hk=>by obtain⟨x,hx,_⟩:=Maps.keyOf_str Tryz.underlying9 hk;exact⟨x,hx⟩) (fun v y hv=>by obtain⟨c,rfl,_⟩:=uy hv;exact⟨c,rfl⟩) b W.heap.size nn _ _ _ rfl hrg ?_ ?_)
  |gi_in)
 ·intro hc0 hl0
  gi_wp2
  go_end0;exact⟨⟨_,rfl⟩,.inl ⟨_,⟨ps,⟨hC.1,fun x=>by rw[hC.2 x,hl0];simp,hV,by omega⟩,rfl⟩,hJs⟩⟩
 intro x c1 c2 c3 c4 kl yd yp w2 cnt2 hkey hlk hv hat hrg2 hlt hg2 hs2 hen;obtain⟨x',ex,rfl,_⟩:=Maps.keyOf_str Tryz.underlying9 hkey;obtain rfl:x=x':=encStr_inj ex;obtain⟨c',ec,ez⟩:=uy hv;obtain rfl:=(KU ec).symm;obtain rfl:yd=.held (c1,c2,c3,c4):=(Prod.mk.inj ez).1;have hJ2:J (ps.map (·.2)) w2:=hJ _ wr w2 (some W.heap.size) hJs hg2 (fun r e=>by cases e;exact⟨Nat.le_refl _,hrg.iter_walk⟩);have hk3:KeepsWalks w2 (w2.alloc (.cells #[.string c1,.slice c2 c3 c4] 27)):=(KeepsOthers.alloc _ _).walks;have hJ3:J (ps.map (·.2)) (w2.alloc (.cells #[.string c1,.slice c2 c3 c4] 27)):=hJ _ w2 _ none hJ2 (World.grownBy_alloc w2 _ none) (fun r e=>by cases e);have Tz:=hrg2.of_walks hk3;obtain⟨fn,tmps,assign,body,hy,hR⟩:=hY (ps.map (·.2)) (c1,c2,c3,c4) _ hJ3 (by simp;omega);have hen':(Instr.entry (.pointer (some ⟨W.heap.size,0,none⟩))).run Tryz.prog w2=.ok (.tuple #[encStr x,.agg #[.string c1,.slice c2 c3 c4]]) w2:=hen;clear hs2 hen;show wpListIn _ _ _ _ _ _ _ _;unfold Av at hy⊢;dsimp only at hy⊢
 gi_wp2
 refine hR.mono ?_;have hC2:Collected D0 (fun z=>left z&& !z.sameKey (.string x)) ((ps++[(x,(c1,c2,c3,c4))]).map (·.1)):=by simpa using hC.step hlk hat
 have hV2:∀p∈ps++[(x,(c1,c2,c3,c4))],∀zd,D0.atKey (.string p.1) zd=.held p.2:=fun p hp=>(List.mem_append.1 hp).elim (hV p) (fun e=>by simp only[List.mem_singleton] at e;subst e;exact hat);rintro e W3 (⟨rfl,hJ4,hk4⟩|⟨rfl,hJx3⟩)
 ·gi_wp2
  have hrg3:=Tz.of_walks hk4
  go_roundw
  case rel=>exact⟨_,cnt2,ps++[(x,(c1,c2,c3,c4))],hrg3,by simp;omega,hC2,hV2,by simpa using hJ4⟩
  case measure=>rw[hrg3.left_eq,hrg.left_eq];exact hlt
 gi_wp2
 refine bodyPost_ret (results_none rfl _ _ _) rfl ?_;exact⟨⟨_,rfl⟩,.inr ⟨_,trivial,hJx3⟩⟩
def jm (l:List Two):List Value:=l.flatMap fun x=>[.string x.1,.slice x.2.1 x.2.2.1 x.2.2.2]
theorem Pg (l:List Two):(jm l).length=l.length*2:=by
 induction l with
 |nil=>rfl
 |cons x l ih=>simp only[jm,List.flatMap_cons,List.length_append,List.length_cons,List.length_nil] at ih⊢;omega
theorem yX (l m:List Two):jm (l++m)=jm l++jm m:=by simp[jm]
theorem NI (mb:Option Nat) (w:World):
  Calls Tryz.prog 118 #[.map mb] w fun e w'=>e=.returned (.func (.func 145) #[] #[.pointer (some ⟨w.heap.size,0,none⟩)])∧w'=w.alloc (.cells #[.map mb] 144):=by
 go_enter Tryz.func118,Tryz.ntmps118
 go_wp2;go_ret;exact⟨rfl,rfl⟩
theorem values_stops (n:Nat) (hn:1≤n) (Bm b nn:Nat) (D0:DataW Two) (w:World) (hBm:Bm<w.heap.size) (hm:w.cell? ⟨Bm,0,none⟩=some (.map (some b))) (hown:w.ownsMap Tryz.prog 9 ku b nn D0):
  SeqStopsK Fence.wide n Tryz.prog 145 #[.pointer (some ⟨Bm,0,none⟩)] (fun x:Two=>#[Av x]) KeepsWalks (fun xs=>∃ps,Qr D0 ps∧xs=ps.map (·.2)) (fun _=>True) (Maps.size D0) w:=
 fun l J Jx W hW hJ _ hY h0=>NH n hn l Bm b nn D0 J Jx hY W hJ ((hW.cell (p:=⟨Bm,0,none⟩) hBm).trans hm) (dN hown (hW.block b hown.lt)) h0
theorem NJ (B:Nat) (t:TypeId) (cs:Array Value) {X Y:World} {row:Option Nat} (h:X.heap[B]?=some (.cells cs t (0,0))) (hg:X.grownBy Y row) (hr:∀r,row=some r→∃o:Obj,X.heap[r]?=some o∧o.isCells=false):Y.heap[B]?=some (.cells cs t (0,0)):=by rw[hg.block B (Array.getElem?_eq_some_iff.1 h).1 (fun e=>by obtain⟨o,ho,hc⟩:=hr B e.symm;rw[h] at ho;cases ho;cases hc)];exact h
theorem IJ:(Tryz.prog.info? 27).map (fun i=>(i.zero,i.size,i.bytes))=some (some (.agg #[.string {data:=#[]},.slice none 0 0]),2,40):=by kernel_rfl
theorem E9 (b nn Bm:Nat) (D0:DataW Two) (w:World) (hBm:Bm<w.heap.size) (hm:w.cell? ⟨Bm,0,none⟩=some (.map (some b))) (hown:w.ownsMap Tryz.prog 9 ku b nn D0) (hN:Maps.size D0≤3518437208883):
  CallsIn Fence.wide 3 Tryz.prog 144 #[.slice none 0 0,.func (.func 145) #[] #[.pointer (some ⟨Bm,0,none⟩)]] w
   fun e w'=>∃v xs,e=.returned v∧(∃ps,Qr D0 ps∧xs=ps.map (·.2))∧w'.ownsRow w.heap.size 27 2 v xs.length (jm xs)∧Below w.heap.size w w':=by
 refine callsIn_of_wp_marks Tryz.func144 rfl trivial ?_ rfl;simp only[Tryz.ntmps144,List.size_toArray,List.length_cons,List.length_nil,Nat.reduceAdd,Nat.reduceSub,Array.replicate_succ,Array.replicate_zero,List.push_toArray,List.append_toArray,List.nil_append,List.cons_append]
 gi_wp2
 have bS:=Boxed.new w 24 (.slice none 0 0);have hB0:Below w.heap.size w (w.alloc (.cells #[.slice none 0 0] 24)):=(Below.refl _ w).alloc (Nat.le_refl _) _;have hsz:(w.alloc (.cells #[.slice none 0 0] 24)).heap.size=w.heap.size+1:=by simp
 obtain⟨W0,hW0⟩:∃W0,w.alloc (.cells #[.slice none 0 0] 24)=W0:=⟨_,rfl⟩;rw[hW0] at bS hB0 hsz⊢;clear hW0;refine wpIn_rangeFunc_ownH rfl (by omega) (gf:=145) (lb:=#[.pointer (some ⟨Bm,0,none⟩)]) rfl trivial (enters_of Tryz.func145 (by kernel_rfl) rfl)
  (values_stops 2 (by omega) Bm b nn D0 W0 (by omega) ((hB0.cell (p:=⟨Bm,0,none⟩) hBm).trans hm) (dN hown (hB0.block b hown.lt))) walksK_t walksK_b (Below.refl _ _) (fun _=>rfl)
  (fun pre W=>(∃v,Boxed W w.heap.size 24 v∧W.ownsRow w.heap.size 27 2 v pre.length (jm pre)∧True)∧Below w.heap.size w W)
  (fun _ _ _=>False)
  (OwnFrom.and (Own.from (holdsRow_own w.heap.size w.heap.size 24 27 2 (fun pre=>pre.length) (fun pre=>jm pre) (fun _ _=>True)) _) (ownFrom_below (Nat.le_refl _) (by omega)))
  (fun _ _ _ _ _ hs _ _=>hs)
  ⟨⟨_,bS,World.ownsRow_nil _ _ _ _,trivial⟩,hB0⟩
  (fun x a' W=>∃Bx,w.heap.size<Bx∧W.heap[Bx]?=some (.cells #[.string x.1,.slice x.2.1 x.2.2.1 x.2.2.2] 27 (0,0))∧a'={tmps:=#[.slice none 0 0,.func (.func 145) #[] #[.pointer (some ⟨Bm,0,none⟩)],.pointer (some ⟨w.heap.size,0,none⟩),undef,.slice none 0 0,.pointer (some ⟨Bx,0,none⟩),.func (.func 145) #[] #[.pointer (some ⟨Bm,0,none⟩)],Av x,undef,undef,undef,undef,undef],defers:=[]})
  (fun x a' _ X Y row hs hg hr=>by obtain⟨Bx,h1,h2,h3⟩:=hs;exact⟨Bx,h1,NJ Bx _ _ h2 hg (fun r e=>(hr r e).2),h3⟩)
  ?assign ?body ?done ?stop
 case assign=>
  rintro l pre ⟨c1,c2,c3,c4⟩ W K ⟨⟨v,bS1,hrow,_⟩,hB1⟩ hK;unfold Av;dsimp only
  gi_wp2
  exact hK _ _ ((KeepsOthers.alloc _ _).from _) ((KeepsOthers.alloc _ _).walks) ⟨⟨v,bS1.alloc _,hrow.alloc _,trivial⟩,hB1.alloc hB1.size _⟩ ⟨W.heap.size,bS1.lt,World.alloc_heap_new W _,rfl⟩
 case body=>
  rintro l pre ⟨c1,c2,c3,c4⟩ a' W hl ⟨r,hr⟩ ⟨⟨v,bS1,hrow,_⟩,hB1⟩ ⟨Bx,hBx,bX,rfl⟩ hlt;have cS:=bS1.cell;have cX0:W.cell? ⟨Bx,0,none⟩=some (.string c1):=by simp[World.cell?,bX]
  have cX1:W.cell? ⟨Bx,1,none⟩=some (.slice c2 c3 c4):=by simp[World.cell?,bX]
  obtain⟨i0,hi,hz0,hz1,hz2⟩:=info_parts IJ;have hnew:∀j u,[Value.string c1,Value.slice c2 c3 c4][j]?=some u→(W.alloc (.cells #[.string c1,.slice c2 c3 c4] 27)).cell? (Addr.add ⟨W.heap.size,0,none⟩ j)=some u:=fun j u hj=>by
   have hb:=World.alloc_heap_new W (.cells #[.string c1,.slice c2 c3 c4] 27)
   match j,hj with
   |0,hj=>simp at hj;subst hj;show World.cell? _ ⟨W.heap.size,0,none⟩=_;unfold World.cell?;dsimp only;rw[hb];rfl
   |1,hj=>simp at hj;subst hj;show World.cell? _ ⟨W.heap.size,1,none⟩=_;unfold World.cell?;dsimp only;rw[hb];rfl
  have hone:∀u∈[Value.string c1,Value.slice c2 c3 c4],u.oneCell'=true:=fun u hu=>by simp at hu;rcases hu with rfl|rfl <;> rfl
  have Yq:pre.length+1≤maxLen:=by unfold maxLen;omega
  have hkb:(pre.length+1)*40≤140737488355328:=by omega
  have hsW:=hB1.size
  gi_wp2_with (gi_at_builtin;refine wpListIn_append_own _ rfl _ _ 24 rfl w.heap.size 27 i0 (.agg #[.string {data:=#[]},.slice none 0 0]) 2 40 Tryz.underlying24 hi hz0 hz1 hz2 rfl (by decide) _ _ _ rfl (hrow.alloc _) ⟨W.heap.size,0,none⟩ 1 1 [.string c1,.slice c2 c3 c4] rfl rfl hnew hone Yq hkb (by simp;omega) ?_;intro v' w1 hown' hgrow _;obtain⟨g',cap',rfl⟩:=ownsRow_succ hown';obtain⟨hv1,hv2,hr2,hk2,hb2⟩:=bS1.appended (by decide) hrow hB1.size (Nat.le_refl _) hown' hgrow;have hc1:=hv1.cell;have hf1:=hv1.frozen)
  have hr3:(w1.setCell ⟨w.heap.size,0,none⟩ (.slice (some ⟨g',0,none⟩) (pre.length+1) cap')).ownsRow w.heap.size 27 2 (.slice (some ⟨g',0,none⟩) (pre.length+1) cap') (pre++[((c1,c2,c3,c4):Two)]).length (jm (pre++[((c1,c2,c3,c4):Two)])):=by rw[yX,List.length_append];exact hr2
  exact⟨hk2.from _,hk2.walks,⟨_,hv2,hr3⟩,hB1.trans hb2⟩
 case done=>
  rintro D zs W hD hS ⟨⟨v,bS1,hrow,_⟩,hB1⟩ hK;have cS:=bS1.cell
  gi_wp2
  refine⟨by simp,.inl ⟨_,_,rfl,run_takeDeferred hK,?_⟩⟩;exact⟨_,results_tmp rfl _ _ _,v,zs,rfl,hS,ownsRow_putObj hrow _ hK rfl,hB1.trans (belowK_b (w:=w) (Nat.le_refl _) W D _ _ (by omega) hK rfl rfl)⟩
 case stop=>
  rintro D c pre W _ _ h _;exact h.elim
theorem KW (b nn Bm:Nat) (D0:DataW Two) (w:World) (hBm:Bm<w.heap.size) (hm:w.cell? ⟨Bm,0,none⟩=some (.map (some b))) (hown:w.ownsMap Tryz.prog 9 ku b nn D0) (hN:Maps.size D0≤3518437208883):
  Calls Tryz.prog 117 #[.func (.func 145) #[] #[.pointer (some ⟨Bm,0,none⟩)]] w
   fun e w'=>∃v xs,e=.returned v∧(∃ps,Qr D0 ps∧xs=ps.map (·.2))∧w'.ownsRow w.heap.size 27 2 v xs.length (jm xs)∧Below w.heap.size w w':=by
 have H:=au (callsIn_wide.1 (E9 b nn Bm D0 w hBm hm hown hN))
 go_enter Tryz.func117,Tryz.ntmps117
 go_wp2_with fail
 refine H.out.mono ?_;rintro e w1 ⟨v,xs,rfl,h1,h2,h3⟩;have H1:=au h1;have H2:=au h2;have H3:=au h3;clear h1 h2 h3;go_wp2;go_ret;exact⟨v,xs,rfl,H1.out,H2.out,H3.out⟩
theorem xD {w w':World} {v:Value} {l:List ByteArray} (h:Strs w v l) (k:Below w.heap.size w w'):Strs w' v l:=by obtain⟨h0,a,cap,rfl,h1⟩:=h;refine⟨h0,a,cap,rfl,fun hl=>?_⟩;obtain⟨b,off,rfl,hb,hc⟩:=h1 hl;exact⟨b,off,rfl,Nat.lt_of_lt_of_le hb k.size,fun i hi=>by rw[k.cell (p:=⟨b,off+i,none⟩) hb];exact hc i hi⟩
theorem nU {w w':World} {v:Value} {f:aN} (h:dD w v f) (k:Below w.heap.size w w'):dD w' v f:=by obtain⟨s,rfl,h1⟩:=h;exact⟨s,rfl,xD h1 k⟩
theorem gu.below {P:Program} {K:TypeId} {w w':World} {b n:Nat} {L:List aA} (h:gu P K w b n L) (k:Below w.heap.size w w'):gu P K w' b n L:=by obtain⟨D,h,h1,h2,h3⟩:=h;exact⟨D,dN h (k.block b h.lt),h1,fun f hf=>by obtain⟨x,e,hx⟩:=h2 f hf;exact⟨x,e,nU hx k⟩,h3⟩
theorem Ay:∀{l:List Two} {i:Nat} {x:Two},l[i]?=some x→(jm l)[i*2]?=some (.string x.1)∧(jm l)[i*2+1]?=some (.slice x.2.1 x.2.2.1 x.2.2.2)
 |y::l,0,x,h=>by simp at h;subst h;exact⟨rfl,rfl⟩
 |y::l,i+1,x,h=>by simp at h;have:=Ay h;have e:jm (y::l)=[.string y.1,.slice y.2.1 y.2.2.1 y.2.2.2]++jm l:=rfl;rw[e,show(i+1)*2=2+i*2 by omega,show 2+i*2+1=2+(i*2+1) by omega,List.getElem?_append_right (by simp),List.getElem?_append_right (by simp)];simpa using this
open Classical in
noncomputable def xE (L:List aA) (s:Bs):aA:=if h:∃f∈L,uw f=s then Classical.choose h else aC
theorem qN {L:List aA} {s:Bs} (h:∃f∈L,uw f=s):xE L s∈L∧uw (xE L s)=s:=by unfold xE;rw[dif_pos h];exact Classical.choose_spec h
theorem Ci {w w':World} {L:List aA} {v:Value} {D:DataW Two} {ps:List (Bs×Two)} (h1:∀s,Maps.has D (.string s)=true↔∃f∈L,uw f=s) (h2:∀f∈L,∃x,D.atKey (.string (uw f)) .nil=.held x∧dD w (Av x) f) (h3:Maps.size D≤3518437208883)
  (hA:Qr D ps) (hr:w'.ownsRow w.heap.size 27 2 v (ps.map (·.2)).length (jm (ps.map (·.2)))) (hB:Below w.heap.size w w'):∃l:List aA,(∀f,f∈l↔f∈L)∧Facts w' v l:=by
 have hk:∀p∈ps,∃f∈L,uw f=p.1:=fun p hp=>(h1 _).1 ((hA.2.1 _).1 (List.mem_map.2 ⟨p,hp,rfl⟩));refine⟨ps.map fun p=>xE L p.1,fun f=>?_,?_⟩
 ·rw[List.mem_map]
  constructor
  ·rintro⟨p,hp,rfl⟩;exact(qN (hk p hp)).1
  intro hf;obtain⟨p,hp,hpf⟩:=List.mem_map.1 ((hA.2.1 (uw f)).2 ((h1 _).2 ⟨f,hf,rfl⟩));exact⟨p,hp,yU ((qN (hk p hp)).2.trans hpf)⟩
 have hlen:=hA.2.2.2;refine lN.facts (base:=w.heap.size) ⟨jm (ps.map (·.2)),by simpa using hr,fun i hi=>?_⟩ (by simp;omega);rw[List.length_map] at hi;obtain⟨p,hp⟩:∃p,ps[i]?=some p:=⟨_,List.getElem?_eq_getElem hi⟩;have hpm:p∈ps:=by obtain⟨_,rfl⟩:=List.getElem?_eq_some_iff.1 hp;exact List.getElem_mem _
 have eg:(ps.map fun p=>xE L p.1).getD i aC=xE L p.1:=by rw[List.getD_eq_getElem?_getD,List.getElem?_map,hp];rfl
 rw[eg];obtain⟨c0,c1⟩:=Ay (l:=ps.map (·.2)) (i:=i) (x:=p.2) (by rw[List.getElem?_map,hp];rfl);obtain⟨g1,g2⟩:=qN (hk p hpm);obtain⟨x,hx,s,hs,hS⟩:=h2 _ g1;rw[g2,hA.2.2.1 p hpm] at hx
 injection hx with hx
 subst hx;unfold Av at hs
 injection hs with hs
 have hs':=congrArg Array.toList hs;simp only[List.cons.injEq,Value.string.injEq,and_true] at hs';obtain⟨e1,e2⟩:=hs';refine⟨by rw[c0,e1],s,by rw[c1,e2],xD hS hB,fun k hk hne=>?_⟩;obtain⟨_,a,cap,rfl,hb⟩:=hS;obtain⟨b,off,rfl,hlt,_⟩:=hb hne;simp[Value.ownBlock] at hk;omega
end
theorem Fa (b:Addr) (cap:Nat) (l:List aN) (w:World) (h:Facts w (.slice (some b) l.length cap) l):
  Calls Tryz.prog 143 #[.slice (some b) l.length cap] w fun e w'=>∃v',e=.returned v'∧lN w' w.heap.size v' l∧ak w w':=by
 have hnil:=fun w=>Lib.run_eql_slice_nil (P:=Tryz.prog) w 24 27 (some b) l.length cap 0 0 Tryz.underlying24;have h0:lN (w.alloc (.cells #[] 27)) w.heap.size (.slice (some ⟨w.heap.size,0,none⟩) 0 0) []:=
  ⟨[],World.ownsRow_made w #[] 0 (Nat.le_refl _) (by simp) (by simp),fun i hi=>by simp at hi⟩
 obtain⟨v',w',hrun,hR,hL,_⟩:=h0.append ((ak.refl w).alloc _) h (by have:=h.1;simpa using this);have HR:=au hrun;have HF:=au hR;clear hrun hR h0 h
 go_enter Tryz.func143,Tryz.ntmps143
 go_wp2_with (at_builtin;refine wpList_append_run rfl (.tmp 5) (.tmp 6) 24 rfl _ _ _ _ rfl rfl HR.out ?_)
 go_ret;exact⟨v',rfl,HF.out,hL⟩
theorem Fb (n cap:Nat) (w:World):
  Calls Tryz.prog 143 #[.slice none n cap] w fun e w'=>e=.returned (.slice none 0 0)∧w'=w:=by
 have hnil:=fun w=>Lib.run_eql_slice_nil (P:=Tryz.prog) w 24 27 none n cap 0 0 Tryz.underlying24
 go_enter Tryz.func143,Tryz.ntmps143
 go_wp2;go_ret;exact⟨rfl,rfl⟩
theorem clone (v:Value) (l:List aN) (w:World) (h:Facts w v l):
  Calls Tryz.prog 143 #[v] w fun e w'=>∃v',e=.returned v'∧lN w' w.heap.size v' l∧ak w w':=by
 obtain⟨a,cap,rfl,hn,hz⟩:=h.addr;cases a with
 |some b=>exact Fa b cap l w h
 |none=>
  rcases hz with rfl|⟨b,off,e⟩;·exact(Fb _ cap w).mono fun e w' ⟨he,hw⟩=>⟨_,he,by rw[hw];exact⟨[],World.ownsRow_nil w _ _ _,fun i hi=>by simp at hi⟩,by rw[hw];exact ak.refl _⟩
  cases e
end Go.Proofs.YtaallngooaaonaaGreatDoor
section
namespace Go.Proofs
open Go.Shelf
def Tryz.sortFacts_ren:Go.Shelf.Ren:=⟨fun|6=>160|15=>173|14=>172|28=>190|29=>191|20=>182|21=>183|22=>184|23=>185|24=>186|25=>187|26=>188|27=>189|46=>212|47=>213|48=>214|49=>215|50=>216|57=>225|n=>n,fun|22=>24|24=>27|25=>126|3=>3|39=>152|0=>0|53=>246|55=>230|4=>4|46=>240|45=>239|50=>124|5=>5|9=>9|66=>261|70=>265|76=>271|77=>31|n=>n,fun|n=>n⟩
theorem Tryz.sortFacts:Go.Proofs.SlLaysF0.n6 Tryz.prog Tryz.sortFacts_ren:={
 mixed:=by kernel_rfl
 f6:=⟨Tryz.f160.name,by decide,Tryz.func160.trans (congrArg some (by kernel_rfl))⟩
 f14:=⟨Tryz.f172.name,by decide,Tryz.func172.trans (congrArg some (by kernel_rfl))⟩
 f15:=Tryz.func173.trans (congrArg some (by kernel_rfl))
 f20:=⟨Tryz.f182.name,by decide,Tryz.func182.trans (congrArg some (by kernel_rfl))⟩
 f21:=⟨Tryz.f183.name,by decide,Tryz.func183.trans (congrArg some (by kernel_rfl))⟩
 f22:=⟨Tryz.f184.name,by decide,Tryz.func184.trans (congrArg some (by kernel_rfl))⟩
 f23:=⟨Tryz.f185.name,by decide,Tryz.func185.trans (congrArg some (by kernel_rfl))⟩
 f24:=⟨Tryz.f186.name,by decide,Tryz.func186.trans (congrArg some (by kernel_rfl))⟩
 f25:=⟨Tryz.f187.name,by decide,Tryz.func187.trans (congrArg some (by kernel_rfl))⟩
 f26:=⟨Tryz.f188.name,by decide,Tryz.func188.trans (congrArg some (by kernel_rfl))⟩
 f27:=⟨Tryz.f189.name,by decide,Tryz.func189.trans (congrArg some (by kernel_rfl))⟩
 f28:=Tryz.func190.trans (congrArg some (by kernel_rfl))
 f29:=Tryz.func191.trans (congrArg some (by kernel_rfl))
 f46:=⟨Tryz.f212.name,by decide,Tryz.func212.trans (congrArg some (by kernel_rfl))⟩
 f47:=Tryz.func213.trans (congrArg some (by kernel_rfl))
 f48:=Tryz.func214.trans (congrArg some (by kernel_rfl))
 f49:=⟨Tryz.f215.name,by decide,Tryz.func215.trans (congrArg some (by kernel_rfl))⟩
 f50:=⟨Tryz.f216.name,by decide,Tryz.func216.trans (congrArg some (by kernel_rfl))⟩
 f57:=⟨Tryz.f225.name,by decide,Tryz.func225.trans (congrArg some (by kernel_rfl))⟩
 t0:=Tryz.underlying0
 a0:=Tryz.isAgg0
 z0:=Tryz.sizeOf0
 v0:=Tryz.zeroValue0
 t3:=Tryz.underlying3
 a3:=Tryz.isAgg3
 z3:=Tryz.sizeOf3
 v3:=Tryz.zeroValue3
 t4:=Tryz.underlying4
 a4:=Tryz.isAgg4
 z4:=Tryz.sizeOf4
 v4:=Tryz.zeroValue4
 t5:=Tryz.underlying5
 a5:=Tryz.isAgg5
 z5:=Tryz.sizeOf5
 v5:=Tryz.zeroValue5
 t9:=Tryz.underlying9
 a9:=Tryz.isAgg9
 z9:=Tryz.sizeOf9
 v9:=Tryz.zeroValue9
 t22:=Tryz.underlying24
 a22:=Tryz.isAgg24
 z22:=Tryz.sizeOf24
 v22:=Tryz.zeroValue24
 t25:=Tryz.underlying126
 a25:=Tryz.isAgg126
 z25:=Tryz.sizeOf126
 v25:=Tryz.zeroValue126
 t39:=Tryz.underlying152
 a39:=Tryz.isAgg152
 z39:=Tryz.sizeOf152
 v39:=Tryz.zeroValue152
 t45:=Tryz.underlying239
 a45:=Tryz.isAgg239
 z45:=Tryz.sizeOf239
 v45:=Tryz.zeroValue239
 t46:=Tryz.underlying240
 a46:=Tryz.isAgg240
 z46:=Tryz.sizeOf240
 v46:=Tryz.zeroValue240
 t50:=Tryz.underlying124
 a50:=Tryz.isAgg124
 z50:=Tryz.sizeOf124
 v50:=Tryz.zeroValue124
 t53:=Tryz.underlying246
 a53:=Tryz.isAgg246
 z53:=Tryz.sizeOf246
 v53:=Tryz.zeroValue246
 t55:=Tryz.underlying230
 a55:=Tryz.isAgg230
 z55:=Tryz.sizeOf230
 v55:=Tryz.zeroValue230
 t66:=Tryz.underlying261
 a66:=Tryz.isAgg261
 z66:=Tryz.sizeOf261
 v66:=Tryz.zeroValue261
 t70:=Tryz.underlying265
 a70:=Tryz.isAgg265
 z70:=Tryz.sizeOf265
 v70:=Tryz.zeroValue265
 t76:=Tryz.underlying271
 a76:=Tryz.isAgg271
 z76:=Tryz.sizeOf271
 v76:=Tryz.zeroValue271
 t77:=Tryz.underlying31
 a77:=Tryz.isAgg31
 z77:=Tryz.sizeOf31
 v77:=Tryz.zeroValue31}
end Go.Proofs
end
namespace Go.Proofs.YtaallngooaaonaaGreatDoor
structure Elem (w:World) (blk:Nat):Type where
 n:ByteArray
 s:Value
 args:List ByteArray
 hs:Strs w s args
 hb:∀k,s.ownBlock=some k→args≠[]→k≠blk
def Elem.fact {w:World} {blk:Nat} (x:Elem w blk):aN:=(x.n,x.args)
def Elem.enc {w:World} {blk:Nat} (x:Elem w blk):List Value:=[.string x.n,x.s]
def Elem.no (w:World) (blk:Nat):Elem w blk:=⟨ByteArray.empty,.slice none 0 0,[],⟨by simp,none,0,rfl,fun h=>absurd rfl h⟩,fun _ _ h=>absurd rfl h⟩
def Elem.cmp {w:World} {blk:Nat} (x y:Elem w blk):Int:=fO x.fact y.fact
theorem Elem.swo (w:World) (blk:Nat):SWO (ltOf (Elem.cmp (w:=w) (blk:=blk))) where
 irrefl x:=by unfold ltOf Elem.cmp;rw[aW.refl];rfl
 trans x y z h1 h2:=by unfold ltOf at*;rw[decide_eq_true_eq] at*;exact aW.trans _ _ _ h1 h2
 ntrans x y z h1 h2:=by unfold ltOf at*;rw[decide_eq_false_iff_not] at*;have:=BG (a:=x.fact) (b:=y.fact) (c:=z.fact) (Int.not_lt.1 h1) (Int.not_lt.1 h2);exact Int.not_lt.2 this
theorem Qs:∀w,(isAgg 27).run Tryz.prog w=.ok true w:=Tryz.isAgg27
theorem NK:∀w,(Go.sizeOf 27).run Tryz.prog w=.ok 2 w:=Tryz.sizeOf27
theorem Fe:∀args w,(callFunc 68 args).run Tryz.prog w=.ok (.enter 68 args) w:=enters_of Tryz.func68 (by kernel_rfl) rfl
theorem nJ {α:Type} (inst:Inhabited α) (enc:α→List Value) (w:World) (blk off m:Nat) (d:Array α) (os:Array Obj) (k:Nat) (hk:k<w.heap.size) (hne:k≠blk):
  (@sortWorldK α inst enc 2 w blk off m d os).heap[k]?=w.heap[k]?:=by
 unfold sortWorldK;rw[heap_grow_old _ _ (by rw[size_putRowK];exact hk)];simp only[putRowK,putRow,mapBlock];rw[Array.getElem?_modify,if_neg (fun e=>hne e.symm)]
 rfl
theorem nK {α:Type} (inst:Inhabited α) (enc:α→List Value) (w:World) (blk off m:Nat) (d:Array α) (os:Array Obj):w.heap.size≤(@sortWorldK α inst enc 2 w blk off m d os).heap.size:=by unfold sortWorldK;rw[size_grow,size_putRowK];exact Nat.le_add_right _ _
theorem Elem.NM {w W:World} {blk:Nat} (x:Elem w blk) (hs:w.heap.size≤W.heap.size) (hk:∀k,k<w.heap.size→k≠blk→W.heap[k]?=w.heap[k]?):dD W (.agg #[.string x.n,x.s]) x.fact:=by
 refine⟨x.s,rfl,?_⟩
 by_cases hl:x.args=[]
 ·have:=x.hs;show Strs W x.s x.args;rw[hl] at this⊢;exact this.nil
 exact x.hs.kept hs fun k e=>hk k (x.hs.block_lt hl k e) (x.hb k e hl)
theorem NN (w:World) (blk off size:Nat): @CmpLays (Elem w blk) ⟨Elem.no w blk⟩ Tryz.prog 68 #[] Elem.enc 2 Elem.cmp blk off size w:=by intro m os dk hd x y;have hs:=nK ⟨Elem.no w blk⟩ Elem.enc w blk off m dk os;have hk:=nJ ⟨Elem.no w blk⟩ Elem.enc w blk off m dk os;exact(kQ _ _ x.fact y.fact _ (x.NM hs hk) (y.NM hs hk)).mono fun e w' ⟨he,hw⟩=>⟨he,hw⟩
theorem lN.elems {w:World} {base g n cap:Nat} {l:List aN} (h:lN w base (.slice (some ⟨g,0,none⟩) n cap) l):
  g<w.heap.size∧base≤g∧n=l.length∧∃d:Array (Elem w g),d.toList.map Elem.fact=l∧ @HoldsK (Elem w g) ⟨Elem.no w g⟩ Elem.enc 2 w g 0 d:=by
 obtain⟨xs,ho,hx⟩:=h;have ho2:=ho.2;rcases ho2 with⟨e,_⟩|⟨g',cap',cur,e,hb,hg,hnc,hcm,hcs,htake⟩;·cases e
 simp only[Value.slice.injEq,Option.some.injEq,Addr.mk.injEq] at e;obtain⟨⟨rfl,_⟩,rfl,rfl⟩:=e;have hgl:g<w.heap.size:=(Array.getElem?_eq_some_iff.1 hg).1;refine⟨hgl,hb,rfl,?_⟩;have hsv:∀i:Fin l.length,∃x:Elem w g,x.fact=l.getD i aC∧xs[i.1*2]?=some (.string x.n)∧xs[i.1*2+1]?=some x.s:=fun i=>by obtain⟨c1,s,c2,c3,c4⟩:=hx i.1 i.2;exact⟨⟨(l.getD i aC).1,s,(l.getD i aC).2,c3,fun k hk ha e=>by have:=c4 k hk ha;omega⟩,rfl,c1,c2⟩
 refine⟨Array.ofFn fun i=>Classical.choose (hsv i),?_,?_⟩
 ·apply List.ext_getElem
  ·simp
  intro i h1 h2;have:=(Classical.choose_spec (hsv ⟨i,h2⟩)).1;simp only[List.getElem_map,Array.getElem_toList,Array.getElem_ofFn];rw[this,List.getD_eq_getElem?_getD,List.getElem?_eq_getElem h2];rfl
 letI:Inhabited (Elem w g):=⟨Elem.no w g⟩
 intro j hj;rw[size_flatK,Array.size_ofFn] at hj;have hj2:j/2<l.length:=by omega
 rw[get_flatK _ _ _ _ (by rw[Array.size_ofFn];exact hj)];have e1:(Array.ofFn fun i=>Classical.choose (hsv i))[j/2]! =Classical.choose (hsv ⟨j/2,hj2⟩):=by rw[getElem!_pos _ _ (by rw[Array.size_ofFn];exact hj2),Array.getElem_ofFn]
 rw[e1];have sp:=(Classical.choose_spec (hsv ⟨j/2,hj2⟩)).2;generalize Classical.choose (hsv ⟨j/2,hj2⟩)=x at sp;have cellOf:∀u,xs[j]?=some u→w.cell? ⟨g,0+j,none⟩=some u:=fun u hu=>by
  have:=ho.cells (g:=g) rfl j u hu
  rwa [Addr.add_lit] at this
 refine⟨?_,frozen_of_row _ hg⟩;rcases Nat.mod_two_eq_zero_or_one j with hm|hm
 ·rw[hm];refine cellOf _ ?_;have:j/2*2=j:=by omega
  rw[←this];exact sp.1
 rw[hm];refine cellOf _ ?_;have:j/2*2+1=j:=by omega
 rw[←this];exact sp.2
theorem NP {α:Type} (inst:Inhabited α) {d d':Array α} (h:PermIn 0 d.size d d'):d'.toList.Perm d.toList:=by
 obtain⟨h1,_,h3⟩:=h;have e:d'.extract 0 d.size=d':=by rw[←h1];simp
 rw[e] at h3;simpa using h3
theorem Cj {w W:World} {g cap:Nat} (d:Array (Elem w g)) (hs:w.heap.size≤W.heap.size) (hk:∀k,k<w.heap.size→k≠g→W.heap[k]?=w.heap[k]?) (hg:g<W.heap.size) (hd:d.size≤3518437208883)
  (h: @HoldsK (Elem w g) ⟨Elem.no w g⟩ Elem.enc 2 W g 0 d):Facts W (.slice (some ⟨g,0,none⟩) d.size cap) (d.toList.map Elem.fact):=by
 letI:Inhabited (Elem w g):=⟨Elem.no w g⟩
 refine⟨by simpa using hd,some ⟨g,0,none⟩,cap,by simp,fun _=>⟨g,0,rfl,hg,fun i hi=>?_⟩⟩;have hi':i<d.size:=by simpa using hi
 have c0:=(h.cell (i:=i) (c:=0) hi' (by omega)).1;have c1:=(h.cell (i:=i) (c:=1) hi' (by omega)).1;have e:d[i]! =d[i]:=getElem!_pos d i hi';have e2:(d.toList.map Elem.fact).getD i aC=d[i].fact:=by rw[List.getD_eq_getElem?_getD,List.getElem?_map];simp[hi']
 rw[e2];rw[e] at c0 c1;obtain⟨s,es,hs'⟩:=d[i].NM hs hk;simp only[Value.agg.injEq] at es;refine⟨c0,d[i].s,c1,?_⟩;have e3:d[i].fact.fst=d[i].n∧s=d[i].s:=by simpa using es.symm
 rw[e3.2] at hs';exact hs'
theorem TA (w:World) (base:Nat) (v:Value) (l:List aN) (h:lN w base v l) (hl:l.length≤3518437208883):
  Calls Tryz.prog 160 #[v,.func (.func 68) #[] #[]] w fun e w'=>e=.returned (.tuple #[])∧∃l',l'.Perm l∧l'.Pairwise (fun a b=>fO a b≤0)∧Facts w' v l'∧Only base w.heap.size w w':=by
 rcases h.choose_spec.1.2 with⟨rfl,e⟩|⟨g,cap,cur,rfl,_⟩;·have:l=[]:=List.eq_nil_of_length_eq_zero e;subst this;exact(AnyF.slices_SortFunc_none Tryz.sortFacts none 0 _ w).mono fun e w' ⟨he,hw⟩=>⟨he,[],List.Perm.refl _,List.Pairwise.nil,by rw[hw];exact⟨by simp,none,0,rfl,fun h=>absurd rfl h⟩,by rw[hw];exact Only.refl _ _ _⟩
 obtain⟨hgl,hb,_,d,hd,hH⟩:=h.elems
 letI:Inhabited (Elem w g):=⟨Elem.no w g⟩
 have hsz:d.size=l.length:=by rw[←hd];simp
 have hc:=AnyQ.slices_SortFunc Tryz.sortFacts 2 Qs NK Elem.enc (fun _=>rfl) (fun x v hv=>by
  simp[Elem.enc] at hv;rcases hv with rfl|rfl
  ·rfl
  obtain⟨a,c,e⟩:=bA x.hs;rw[e];rfl) Elem.cmp (Elem.swo w g) 68 #[] g 0 cap d w Fe (NN w g 0 d.size) hH hgl (by omega)
 rw[hsz] at hc;refine hc.mono ?_;rintro e w' ⟨he,d',n,os,hp,hs,rfl⟩;have hp':PermIn 0 d.size d d':=by rw[hsz];exact hp
 have hd':d'.size=d.size:=hp'.1;have hkk:=nJ ⟨Elem.no w g⟩ Elem.enc w g 0 n d' os;have hss:=nK ⟨Elem.no w g⟩ Elem.enc w g 0 n d' os;refine⟨he,d'.toList.map Elem.fact,?_,?_,?_,?_⟩;·rw[←hd];exact(NP _ hp').map _
 ·rw[List.pairwise_map];rw[List.pairwise_iff_getElem];intro i j hi hj hij;have:=hs i j (Nat.zero_le _) hij (by simp at hj;omega);have e1:d'[i]! =d'.toList[i]:=by rw[getElem!_pos d' i (by simpa using hi)];simp
  have e2:d'[j]! =d'.toList[j]:=by rw[getElem!_pos d' j (by simpa using hj)];simp
  rw[e1,e2] at this;unfold ltOf Elem.cmp at this;rw[decide_eq_false_iff_not] at this;have:=aW.swap d'.toList[i].fact d'.toList[j].fact;omega
 ·have:=Cj (cap:=cap) d' hss hkk (Nat.lt_of_lt_of_le hgl hss) (by omega) (holdsK_sortWorldK_c Elem.enc 2 w g 0 d d' n os hH hgl hd');rw[hd',hsz] at this;exact this
 refine⟨rfl,rfl,rfl,Nat.le_add_right _ _,hss,fun k hk ho=>hkk k hk (by omega)⟩
end Go.Proofs.YtaallngooaaonaaGreatDoor
