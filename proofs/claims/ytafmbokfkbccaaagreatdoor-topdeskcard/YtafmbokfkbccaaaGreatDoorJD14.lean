import Derived.Test.YtafmbokfkbccaaaGreatDoorJD13
import Derived.Lib.SliceRun
import Derived.Test.YtafmbokfkbccaaaGreatDoorJD7
namespace Go.Proofs.YtafmbokfkbccaaaGreatDoor
open Go.RowKit Go.Sort Go.Maps
theorem in_eq (l:List FactD) (f:FactD):inFrom l f 0=inB l f:=by
 rw[Bool.eq_iff_iff,inFrom_iff,inB_iff]
def barOne (fs:List FactD) (a:AtomD) (l:List BindD):Bool:=match fillB a l with
 |some f=>inB fs f
 |none=>false
theorem barredB_step {pick:Nat→List FactB} {body:List AtomD} {j:Nat} {a:AtomD} (h:body[j]?=some a) (l:List BindD):barredB pick j (body.drop j) l=((a.no&&barOne (pick j) a l)||barredB pick (j+1) (body.drop (j+1)) l):=by
 obtain⟨h1,e1⟩:=List.getElem?_eq_some_iff.1 h;rw[List.drop_eq_getElem_cons h1,e1];rfl
set_option maxRecDepth 100000 in
set_option maxHeartbeats 4000000 in
theorem barredC (body:List AtomD) (v u:Value) (l:List BindD) (g:Nat) (cb:Array Value) (eg:∀args w,(callFunc g args).run Tryz.prog w=.ok (.enter g args) w) (pick:Nat→List FactD) (w:World) (hv:atomK.sl Anyw w v body) (hu:bindK.sl Anyw w u l) (hp:Picks g cb pick w.heap.size w) (hb:body.length≤5) (hr:∀n,Rises (pick n)):
  Calls Tryz.prog 161 #[v,.func (.func g) #[] cb,u] w fun e w'=>e=.returned (.bool (barredB pick 0 body l))∧Later w w':=by
 obtain⟨sa,cap,rfl⟩:=Kind.slice hv;obtain⟨ua,ucap,rfl⟩:=Kind.slice hu;have HV:=hide hv;have HU:=hide hu;have HP:=hide hp;have HR:=hide hr;clear hv hu hp hr;generalize hR:barredB pick 0 body l=R at*;have H0:Hid (R=barredB pick 0 (body.drop 0) l):=hR.symm;clear hR
 go_enter Tryz.func161,Tryz.ntmps161
 go_wp2
 go_loopg [13] body.length (fun gg i wr=>∃j:Nat,j+gg=body.length∧i=.int .i64 j∧Hid (R=barredB pick j (body.drop j) l)∧Hid (Later w wr))
 case atStart=>exact⟨0,by omega,rfl,H0,((by repeat (first|exact Later.refl _|assumption|refine Later.drewN ?_ _|refine Later.drew ?_|refine Later.alloc ?_ _|refine Later.grow ?_ _)):Later _ _)⟩
 case round=>
  obtain⟨j,hj,rfl,HE,HL⟩:=hrel
  by_cases hlt:j<body.length
  ·obtain⟨a,hx⟩:∃x,body[j]?=some x:=⟨_,List.getElem?_eq_getElem hlt⟩;obtain⟨b1,o1,_,rfl,hb1,⟨sv,rfl,hsv⟩,hc⟩:=Kind.sl_at HV.out hx;have d0:wr.cell? ⟨b1,o1+j*3,none⟩=some (.bool a.no):=by rw[HL.out.cell hb1];exact hc 0 _ rfl
   have d1:wr.cell? ⟨b1,o1+j*3+1,none⟩=some (.string (bs a.name)):=by rw[HL.out.cell hb1];exact hc 1 _ rfl
   have d2:wr.cell? ⟨b1,o1+j*3+2,none⟩=some sv:=by rw[HL.out.cell hb1];exact hc 2 _ rfl
   have hbr:b1<wr.heap.size:=Nat.lt_of_lt_of_le hb1 HL.out.size;have HS:=hide (barredB_step (pick:=pick) hx l);obtain⟨sva,svc,rfl⟩:=Kind.slice hsv;have HSV:=hide hsv;clear hc hx hsv;cases hno:a.no
   ·have HS1:Hid (R=barredB pick (j+1) (body.drop (j+1)) l):=by
     show _=_;rw[HE.out,HS.out,hno];rfl
    rw[hno] at d0;clear HE HS hno;generalize bs a.name=nm at*;go_wp2
    go_roundg (body.length- (j+1))
    case measure=>omega
    case rel=>exact⟨j+1,by omega,by go_num,HS1,HL.out.alloc _⟩
   ·have HS1:Hid (R=(barOne (pick j) a l||barredB pick (j+1) (body.drop (j+1)) l)):=by
     show _=_;rw[HE.out,HS.out,hno];rfl
    rw[hno] at d0;have hLt:Later w (wr.alloc (.cells #[.bool true,.string (bs a.name),.slice sva a.terms.length svc] 85)):=HL.out.alloc _;have HFc:=hide (fillC a _ (.slice ua l.length ucap) l (wr.alloc (.cells #[.bool true,.string (bs a.name),.slice sva a.terms.length svc] 85)) (Kind.sl_later HSV.out hLt) (Kind.sl_later HU.out hLt));rw[hno] at HFc;have hbo:barOne (pick j) a l=match fillB a l with|some f=>inB (pick j) f|none=>false:=rfl
    unfold filled at HFc;have HLt:=hide hLt;clear HE HS hLt hno;cases hf:fillB a l with
    |none=>
     rw[hf] at HFc hbo;have HS2:Hid (R=barredB pick (j+1) (body.drop (j+1)) l):=by show _=_;rw[HS1.out,hbo];rfl
     simp only[Option.isSome_none,Option.getD_none] at HFc;clear HS1 hbo hf;generalize bs a.name=nm at*
     go_wp2_with fail
     refine HFc.out.mono ?_;rintro e w2 ⟨fv,rfl,hfv,hL2⟩;obtain⟨s,rfl,hs⟩:=hfv;obtain⟨sA,sC,rfl⟩:=sliceStr hs;have HL2:=hide (HLt.out.trans hL2);clear hs hL2 HFc;go_wp2;refine wp_region_held_drew (S:=fun w'=>Later w w') (by kernel_rfl) ((HL2.out.alloc _).drew) (fun hHeld=> ?_);refine take_yes (i:=0) (d:=some 27) (v:= ?_) rfl rfl hHeld ?_ ?_;rotate_left;focus intro w hSw;(try dsimp only at hSw);go_simp;try with_reducible rfl
     simp only[aput,aset,aze,asu];refine take_yes (i:=1) (d:=some 28) (v:= ?_) rfl rfl hHeld ?_ ?_;rotate_left;focus intro w hSw;(try dsimp only at hSw);go_simp;try with_reducible rfl
     simp only[aput,aset,aze,asu];refine take_no (i:=2) (d:=some 29) rfl rfl hHeld ?_;simp only[aput,aset,aze,asu];refine take_no (i:=3) (d:=some 30) rfl rfl hHeld ?_;simp only[aput,aset,aze,asu];refine take_no (i:=4) (d:=some 31) rfl rfl hHeld ?_;simp only[aput,aset,aze,asu];refine take_no (i:=5) (d:=some 32) rfl rfl hHeld ?_;simp only[aput,aset,aze,asu];refine take_no (i:=6) (d:=some 33) rfl rfl hHeld ?_;simp only[aput,aset,aze,asu];refine take_yes (i:=7) (d:=some 34) (v:= ?_) rfl rfl hHeld ?_ ?_;rotate_left;focus intro w hSw;(try dsimp only at hSw);go_simp;try with_reducible rfl
     simp only[aput,aset,aze,asu];refine wpAnyH_done (by kernel_rfl) ?_ _;go_wp2
     go_roundg (body.length- (j+1))
     case measure=>omega
     case rel=>exact⟨j+1,by omega,by go_num,HS2,hHeld⟩
    |some f=>
     rw[hf] at HFc hbo;have HS2:Hid (R=(inFrom (pick j) f 0||barredB pick (j+1) (body.drop (j+1)) l)):=by show _=_;rw[HS1.out,hbo,in_eq]
     simp only[Option.isSome_some,Option.getD_some] at HFc;clear HS1 hbo hf;generalize bs a.name=nm at*
     go_wp2_with fail
     refine HFc.out.mono ?_;rintro e w2 ⟨fv,rfl,hfv,hL2⟩;have HFV:=hide hfv;obtain⟨s,rfl,hs⟩:=hfv;obtain⟨sA,sC,rfl⟩:=sliceStr hs;have HL2:=hide (HLt.out.trans hL2);obtain⟨fn,fargs⟩:=f;dsimp only at*;obtain⟨wb,hwb⟩:∃wb,wb=w2.alloc (.cells #[.string fn,.slice sA fargs.length sC] 27):=⟨_,rfl⟩;have hLb:Later w wb:=by rw[hwb];exact HL2.out.alloc _
     have hFb:FactV wb (.agg #[.string fn,.slice sA fargs.length sC]) (fn,fargs):=by rw[hwb];exact HFV.out.later ((Later.refl _).alloc _)
     have z:wb.cell? ⟨w2.heap.size,0,none⟩=some (.string fn)∧wb.cell? ⟨w2.heap.size,1,none⟩=some (.slice sA fargs.length sC):=by rw[hwb];simp
     have hsb:w2.heap.size<wb.heap.size:=by rw[hwb];simp
     have CELL:Hid (∀w',Later wb w'→w'.cell? ⟨w2.heap.size,0,none⟩=some (.string fn)∧w'.cell? ⟨w2.heap.size,1,none⟩=some (.slice sA fargs.length sC)):=fun w' hL=>
      ⟨by rw[hL.cell hsb];exact z.1,by rw[hL.cell hsb];exact z.2⟩
     have HFr:Hid (∀w',Later wb w'→Calls Tryz.prog g (#[.int .i64 j]++cb) w' fun e w2=>∃v,e=.returned v∧Facts w2 v (pick j)∧Later w' w2):=fun w' hL=>
      HP.out w' j (hLb.trans hL).below (by omega)
     have HIn:Hid (∀w' x,Later wb w'→Facts w' x (pick j)→Calls Tryz.prog 23 #[x,.agg #[.string fn,.slice sA fargs.length sC]] w' fun e w3=>e=.returned (.bool (inFrom (pick j) (fn,fargs) 0))∧Later w' w3):=fun w' x hL hx=>
      inC x _ (pick j) (fn,fargs) w' hx (hFb.later hL) (HR.out j)
     have HWB:=hide hwb;clear hs hL2 HFc hwb z hsb HFV hFb;go_wp2;rw[←HWB.out];generalize inFrom (pick j) (fn,fargs) 0=bb at*;refine wp_region_held_drew (S:=fun w'=>Later wb w') (by kernel_rfl) (Later.refl _).drew (fun hHeld=> ?_);refine take_yes (i:=0) (d:=some 27) (v:= ?_) rfl rfl hHeld ?_ ?_;rotate_left;focus intro w hSw;(try dsimp only at hSw);go_simp;try with_reducible rfl
     simp only[aput,aset,aze,asu];refine take_yes (i:=1) (d:=some 28) (v:= ?_) rfl rfl hHeld ?_ ?_;rotate_left;focus intro w hSw;(try dsimp only at hSw);go_simp;try with_reducible rfl
     simp only[aput,aset,aze,asu];refine take_yes (i:=2) (d:=some 29) (v:= ?_) rfl rfl hHeld ?_ ?_;rotate_left;focus intro w hSw;(try dsimp only at hSw);go_simp;try with_reducible rfl
     simp only[aput,aset,aze,asu];refine take_yes (i:=3) (d:=some 30) (v:= ?_) rfl rfl hHeld ?_ ?_;rotate_left;focus intro w hSw;(try dsimp only at hSw);go_simp;try with_reducible rfl
     simp only[aput,aset,aze,asu];refine take_yes (i:=5) (d:=some 32) (v:= ?_) rfl rfl hHeld ?_ ?_;rotate_left;focus intro w hSw;(try dsimp only at hSw);obtain⟨q0,q1⟩:=CELL.out w hSw;go_simp;try with_reducible rfl
     simp only[aput,aset,aze,asu];refine wpAnyH_ready (rs:=[4]) (by kernel_rfl) (by simp) ?_;refine AllReadyH.cons rfl (fun K hK=> ?_) AllReadyH.nil;go_simp;refine(HFr.out _ hHeld).mono ?_;rintro e u1 ⟨x,rfl,hx,hU1⟩;dsimp only;have hU1':Later wb u1:=Later.trans hHeld hU1;refine hK.out _ _ hU1' (fun hHeld=> ?_);clear hK K;refine wpAnyH_ready (rs:=[6]) (by kernel_rfl) (by simp) ?_;refine AllReadyH.cons rfl (fun K hK=> ?_) AllReadyH.nil;go_simp;refine(HIn.out _ x hU1' hx).mono ?_;rintro e u2 ⟨rfl,hU2⟩;dsimp only;have hU2':Later wb u2:=hU1'.trans hU2;refine hK.out _ _ hU2' (fun hHeld=> ?_);clear hK K;refine take_yes (i:=7) (d:=some 34) (v:= ?_) rfl rfl hHeld ?_ ?_;rotate_left;focus intro w hSw;(try dsimp only at hSw);go_simp;try with_reducible rfl
     simp only[aput,aset,aze,asu];refine wpAnyH_done (by kernel_rfl) ?_ _;have HLu:=hide (hLb.trans hU2');cases bb
     ·have HS3:Hid (R=barredB pick (j+1) (body.drop (j+1)) l):=by show _=_;rw[HS2.out];rfl
      clear HS2;go_wp2
      go_roundg (body.length- (j+1))
      case measure=>omega
      case rel=>exact⟨j+1,by omega,by go_num,HS3,HLu⟩
     ·have HS3:Hid (R=true):=by show _=_;rw[HS2.out];rfl
      clear HS2;go_wp2;go_ret;exact⟨by rw[HS3.out];rfl,HLu.out⟩
  ·have HS3:Hid (R=false):=by show _=_;rw[HE.out,List.drop_eq_nil_of_le (by omega)];rfl
   clear HE;go_wp2;go_ret;exact⟨by rw[HS3.out];rfl,HL.out⟩
theorem enters_with1:∀args w,(callFunc 160 args).run Tryz.prog w=.ok (.enter 160 args) w:=enters_of Tryz.func160 (by kernel_rfl) rfl
def Dels (g:Nat) (cb:Array Value) (p:List BindD→Bool) (n:Nat) (w0:World):Prop:=∀(W:World) (u:Value) (l:List BindD),Below n w0 W→bindK.sl Anyw W u l→
 Calls Tryz.prog g (#[u]++cb) W fun e w'=>e=.returned (.bool (p l))∧Later W w'
set_option maxHeartbeats 1000000 in
theorem with1C (cB cF:Nat) (body:List AtomD) (v:Value) (g:Nat) (cb:Array Value) (eg:∀args w,(callFunc g args).run Tryz.prog w=.ok (.enter g args) w) (pick:Nat→List FactD) (n:Nat) (w0:World) (hv:atomK.sl Anyw w0 v body) (hp:Picks g cb pick n w0) (hb:body.length≤5) (hr:∀n,Rises (pick n))
  (h0:w0.cell? ⟨cB,0,none⟩=some v) (h1:w0.cell? ⟨cF,0,none⟩=some (.func (.func g) #[] cb)) (b0:cB<n) (b1:cF<n) (hn:n=w0.heap.size):
  Dels 160 #[.pointer (some ⟨cB,0,none⟩),.pointer (some ⟨cF,0,none⟩)] (barredB pick 0 body) n w0:=by
 intro W u l hW hu;have hW':Below w0.heap.size w0 W:=by rw[←hn];exact hW
 have hs:n≤W.heap.size:=by have:=hW.size;omega
 have z0:W.cell? ⟨cB,0,none⟩=some v:=by rw[hW.cell b0];exact h0
 have z1:W.cell? ⟨cF,0,none⟩=some (.func (.func g) #[] cb):=by rw[hW.cell b1];exact h1
 have s0:cB<W.heap.size:=by omega
 have s1:cF<W.heap.size:=by omega
 have HC:=hide (barredC body v u l g cb eg pick W (Kind.sl_below hv hW') hu (hp.below hW hs) hb hr);obtain⟨a,cap,rfl⟩:=Kind.slice hv;obtain⟨ua,ucap,rfl⟩:=Kind.slice hu;clear hv hu hp hr h0 h1 hW' hW;generalize barredB pick 0 body l=bb at*;show Calls _ _ #[.slice ua l.length ucap,.pointer (some ⟨cB,0,none⟩),.pointer (some ⟨cF,0,none⟩)] _ _
 go_enter Tryz.func160,Tryz.ntmps160
 go_wp2_with (go_at_call 161;refine HC.out.mono ?_;rintro e w2 ⟨rfl,hL2⟩;replace hL2:=hide hL2)
 go_ret;exact⟨rfl,unhide hL2⟩
end Go.Proofs.YtafmbokfkbccaaaGreatDoor
namespace Go.Proofs.YtafmbokfkbccaaaGreatDoor
open Go.RowKit Go.Sort Go.Maps
theorem OnlyB.setCell {p:Option Nat} {a b:World} (h:OnlyB p a b) {x:Addr} (hx:p=some x.block) (v:Value):OnlyB p a (b.setCell x v):=
 ⟨h.os,h.tape,h.output,h.drawn,by simpa[World.setCell] using h.size,fun k hk ho=>by
  rw[Below.heap_setCell _ _ _ _ (fun e=>ho (by rw[hx,e]))];exact h.block k hk ho⟩
theorem setCells_only (g:Nat):∀(vs:List Value) (o:Nat) (w:World),OnlyB (some g) w (w.setCells g o vs)
 |[],_,_=>OnlyB.refl _ _
 |v::r,o,w=>((OnlyB.refl (some g) w).setCell (x:=⟨g,o,none⟩) rfl v).trans (setCells_only g r (o+1) _)
theorem setCells_row (g:Nat):∀(vs:List Value) (o:Nat) (w:World) (cur:Array Value) (t:TypeId) (fr:Nat×Nat),w.heap[g]?=some (.cells cur t fr)→
  ∃cur',(w.setCells g o vs).heap[g]?=some (.cells cur' t fr)∧cur'.size=cur.size∧∀q,q<o→cur'[q]?=cur[q]?
 |[],_,w,cur,t,fr,h=>⟨cur,h,rfl,fun _ _=>rfl⟩
 |v::r,o,w,cur,t,fr,h=>by
  obtain⟨cur',h1,h2,h3⟩:=setCells_row g r (o+1) (w.setCell ⟨g,o,none⟩ v) (cur.setIfInBounds o v) t fr (set_at h v);refine⟨cur',h1,by rw[h2];simp,fun q hq=> ?_⟩;rw[h3 q (by omega),Array.getElem?_setIfInBounds_ne (by omega)]
set_option maxHeartbeats 1000000 in
theorem indexL (v:Value) (ls:List (List BindD)) (g:Nat) (cb:Array Value) (eg:∀args w,(callFunc g args).run Tryz.prog w=.ok (.enter g args) w) (p:List BindD→Bool) (n:Nat) (w0 w:World) (hd:Dels g cb p n w0) (hw:Below n w0 w) (hn:n≤w.heap.size) (hv:listK.sl Anyw w v ls):
  Calls Tryz.prog 219 #[v,.func (.func g) #[] cb] w fun e w'=>∃r:Int,e=.returned (.int .i64 r)∧((r= -1∧∀l∈ls,p l=false)∨∃k l,r=(k:Nat)∧ls[k]?=some l∧p l=true∧∀l∈ls.take k,p l=false)∧Later w w':=by
 obtain⟨a,cap,rfl⟩:=Kind.slice hv;have hl:=hv.1.1;have HV:=hide hv;have HC:Hid (∀w' u l,Later w w'→bindK.sl Anyw w' u l→Calls Tryz.prog g (#[u]++cb) w' fun e w''=>e=.returned (.bool (p l))∧Hid (Later w w'')):=fun w' u l hL hu=>
  (hd w' u l (below_trans hw hL.below hn) hu).mono fun e w'' ⟨he,hL2⟩=>⟨he,hL.trans hL2⟩
 clear hv hd hw
 go_enter Tryz.func219,Tryz.ntmps219
 go_wp2
 go_loopg [8] ls.length (fun gg i wr=>∃k:Nat,k+gg=ls.length∧i=.int .i64 k∧Hid (∀l∈ls.take k,p l=false)∧Hid (Later w wr))
 case atStart=>exact⟨0,by omega,rfl,(fun l hl=>by simp at hl),Later.refl _⟩
 case round=>
  obtain⟨k,hk,rfl,HE,HL⟩:=hrel
  by_cases hlt:k<ls.length
  ·obtain⟨l,hx⟩:∃x,ls[k]?=some x:=⟨_,List.getElem?_eq_getElem hlt⟩;obtain⟨b1,o1,_,rfl,hb1,⟨u,rfl,hu⟩,hcl⟩:=Kind.sl_at HV.out hx;have d0:wr.cell? ⟨b1,o1+k,none⟩=some u:=by rw[HL.out.cell hb1];simpa[slK] using hcl 0 _ rfl
   have hbr:b1<wr.heap.size:=Nat.lt_of_lt_of_le hb1 HL.out.size;have HCk:=hide (HC.out wr u l HL.out (Kind.sl_later hu HL.out));obtain⟨ua,uc,rfl⟩:=Kind.slice hu;have HX:=hide hx;clear hcl hx hu;cases hq:p l
   ·have HE1:Hid (∀l∈ls.take (k+1),p l=false):=fun x hx'=>by
     rw[List.take_add_one,HX.out] at hx';rcases List.mem_append.1 hx' with h|h
     ·exact HE.out x h
     ·simp at h;rw[h];exact hq
    rw[hq] at HCk;clear hq HE
    go_wp2_with fail
    refine HCk.out.mono ?_;rintro e w2 ⟨rfl,hL2⟩;go_wp2
    go_roundg (ls.length- (k+1))
    case measure=>omega
    case rel=>exact⟨k+1,by omega,by go_num,HE1,hL2⟩
   ·have HQ:=hide hq;rw[hq] at HCk;clear hq
    go_wp2_with fail
    refine HCk.out.mono ?_;rintro e w2 ⟨rfl,hL2⟩;go_wp2;go_ret;exact⟨_,rfl,Or.inr ⟨k,l,rfl,HX.out,HQ.out,HE.out⟩,hL2.out⟩
  ·have HE1:Hid (∀l∈ls,p l=false):=by
    have:=HE.out;rw[List.take_of_length_le (by omega)] at this;exact this
   go_wp2;go_ret;exact⟨_,rfl,Or.inl ⟨rfl,HE1.out⟩,HL.out⟩
theorem zeroBinds:∀w,(zeroValue 158).run Tryz.prog w=.ok (.slice none 0 0) w:=Tryz.zeroValue158
def keptL (p:List BindD→Bool) (ps:List (Value×List BindD)):List (Value×List BindD):=ps.filter fun q=> !p q.2
theorem keptL_step {p:List BindD→Bool} {ps:List (Value×List BindD)} {j:Nat} {q:Value×List BindD} (h:ps[j]?=some q):keptL p (ps.take (j+1))=if p q.2 then keptL p (ps.take j) else keptL p (ps.take j)++[q]:=by
 unfold keptL;rw[List.take_add_one,h,List.filter_append];cases e:p q.2 <;> simp[e]
set_option maxRecDepth 100000 in
set_option maxHeartbeats 4000000 in
theorem deleteC (v:Value) (ps:List (Value×List BindD)) (g:Nat) (cb:Array Value) (eg:∀args w,(callFunc g args).run Tryz.prog w=.ok (.enter g args) w) (p:List BindD→Bool) (n lo:Nat) (w0 w:World) (hd:Dels g cb p n w0) (hw:Below n w0 w) (hn:n≤lo) (hlo:lo≤w.heap.size) (hv:Lists 158 190 lo w v ps) (hl:ps.length≤20000) (hs:∀q∈ps,q.2.length≤20):
  Calls Tryz.prog 159 #[v,.func (.func g) #[] cb] w fun e w'=>∃v',e=.returned v'∧Lists 158 190 lo w' v' (keptL p ps)∧v'.ownBlock=v.ownBlock∧OnlyB v.ownBlock w w':=by
 have HI:=hide (indexL v (ps.map (·.2)) g cb eg p n w0 w hd hw (by omega) (Kind.sl_any (hv.sl (by omega) fun q hq=>by have:=hs q hq;omega)));obtain⟨a,cap,rfl⟩:=hv.slice;have HV:=hide hv;have HD:Hid (∀w' u l,OnlyB (Value.slice a ps.length cap).ownBlock w w'→bindK.sl Anyw w' u l→Calls Tryz.prog g (#[u]++cb) w' fun e w''=>e=.returned (.bool (p l))∧Later w' w''):=fun w' u l hO hu=>by
  refine hd w' u l (below_trans hw ⟨hO.os,hO.tape,hO.output,hO.size,fun k hk=>hO.block k (by omega) fun e=> ?_⟩ (Nat.le_refl _)) hu;have:=hv.lo_le k e;omega
 have HS:=hide hs;clear hv hd hw hs
 go_enter Tryz.func159,Tryz.ntmps159
 go_wp2_with fail
 refine HI.out.mono ?_;rintro e w1 ⟨r,rfl,h,hL1⟩;have HL1:=hide hL1;clear HI hL1;rcases h with⟨rfl,h⟩|⟨k0,l0,rfl,hk0,hp0,hbe⟩
 ·have HK:Hid (keptL p ps=ps):=by
   show _=_;unfold keptL;rw[List.filter_eq_self];intro q hq;rw[h q.2 (List.mem_map.2 ⟨q,hq,rfl⟩)];rfl
  clear h;go_wp2;go_ret;exact⟨_,rfl,by rw[HK.out];exact HV.out.later HL1.out,rfl,OnlyB.of_later HL1.out⟩
 ·have hk0l:k0<ps.length:=by simpa using(List.getElem?_eq_some_iff.1 hk0).1
  obtain⟨q0,hq0⟩:∃q,ps[k0]?=some q:=⟨_,List.getElem?_eq_getElem hk0l⟩;have hq02:q0.2=l0:=by
   rw[List.getElem?_map,hq0] at hk0;simpa using hk0
  have HKs:Hid (keptL p (ps.take (k0+1))=ps.take k0):=by
   show _=_;rw[keptL_step hq0,hq02,hp0,if_pos rfl];unfold keptL;rw[List.filter_eq_self];intro q hq;rw[hbe q.2 (by rw[←List.map_take];exact List.mem_map.2 ⟨q,hq,rfl⟩)];rfl
  obtain⟨ho,hpw⟩:=HV.out;rcases ho.2 with⟨e,e'⟩|⟨gb,cap',cur,e,hbg,hg,hnc,hcm,hcs,htk⟩
  ·omega
  ·simp only[Value.slice.injEq] at e;obtain⟨rfl,_,rfl⟩:=e;have hgl:gb<w.heap.size:=(Array.getElem?_eq_some_iff.1 hg).1;have hne1:((k0:Int)== -1)=false:=beq_eq_false_iff_ne.2 (by omega);have HPW:=hide hpw;have hcur:∀q,q<ps.length→cur[q]?=some ((ps.map (·.1))[q]?.getD (.slice none 0 0)):=fun q hq=>by
    have e1:(cur.toList.take (ps.length*1))[q]?=(ps.map (·.1))[q]?:=by rw[htk]
    rw[List.getElem?_take,if_pos (by omega)] at e1;rw[←Array.getElem?_toList,e1,List.getElem?_eq_getElem (by simpa using hq)];rfl
   have HCur:=hide hcur;have HG:=hide hg;have HCS:=hide hcs;clear hk0 hp0 hbe hq0 hq02 ho hpw hg hcs htk hcur;go_wp2
   go_loopg [5,6,7] ps.length (fun gg s5 s6 _ wr=>∃(i j:Nat) (cr:Array Value),s5=.int .i64 i∧s6=.int .i64 j∧(ps.length≤j+gg∧j≤ps.length)∧i<j∧Hid (i=(keptL p (ps.take j)).length)∧Hid (wr.heap[gb]?=some (.cells cr 158 (0,0)))∧Hid (cr.size=cap)∧
    Hid (∀q,q<i→cr[q]?=some (((keptL p (ps.take j)).map (·.1))[q]?.getD (.slice none 0 0)))∧Hid (∀q,j≤q→q<ps.length→cr[q]?=some ((ps.map (·.1))[q]?.getD (.slice none 0 0)))∧Hid (OnlyB (some gb) w wr))
   case atStart=>
    refine⟨k0,k0+1,cur,rfl,by go_num,by omega,by omega,?_,((HL1.out.block hgl).trans HG.out:_=_),(by rw[HCS.out];omega:_=_),?_,(fun q _ hq=>HCur.out q hq),OnlyB.of_later HL1.out⟩
    ·show _=_;rw[HKs.out,List.length_take];omega
    ·intro q hq;rw[HKs.out,List.map_take,List.getElem?_take,if_pos hq];exact HCur.out q (by omega)
   case round=>
    clear HL1 HKs HG HCS HCur;obtain⟨i,j,cr,rfl,rfl,hj,hij,HI,HB,HZ,HLo,HHi,HO⟩:=hrel;have hcr:=HZ.out;have hgr:gb<wr.heap.size:=Nat.lt_of_lt_of_le hgl HO.out.size;have ownr:∀q∈ps,bindK.own 190 lo wr q.1 q.2:=fun q hq=>own_block (HPW.out.1 q hq).1 fun k e=>HO.out.block k (Kind.own_lt (HPW.out.1 q hq).1 e).2 (fun e'=>(HPW.out.1 q hq).2 k e e');have HOw:=hide ownr;clear ownr
    by_cases hlt:j<ps.length
    ·obtain⟨q,hq⟩:∃q,ps[j]?=some q:=⟨_,List.getElem?_eq_getElem hlt⟩;have hqm:=List.mem_of_getElem? hq;have hcj:cr[j]?=some q.1:=by
      rw[HHi.out j (Nat.le_refl _) hlt,List.getElem?_map,hq];rfl
     have hci:∃old,cr[i]?=some old:=⟨_,Array.getElem?_eq_getElem (by omega)⟩;obtain⟨old,hci⟩:=hci;have cj:wr.cell? ⟨gb,j,none⟩=some q.1:=by rw[cell_of_row _ _ _ _ _ _ HB.out];exact hcj
     have HSt:=hide (keptL_step (p:=p) hq);have HCl:=hide (HD.out wr q.1 q.2 HO.out (Kind.sl_any (Kind.own_sl (HOw.out q hqm) (by have:=HS.out q hqm;omega))));obtain⟨ua,un,uc,hqu⟩:∃a n c,q.1=.slice a n c:=by obtain⟨a,c,e⟩:=Kind.own_slice (HOw.out q hqm);exact⟨a,_,c,e⟩
     rw[hqu] at cj HCl hcj;have HQ1:=hide hqu;have HCI:=hide hci;have HQ:=hide hq;have hltz:(j:Int)<(ps.length:Int):=by omega
     clear hq hqm hqu hcj hci;cases hpq:p q.2
     ·rw[hpq] at HCl HSt;have HSt1:Hid (keptL p (ps.take (j+1))=keptL p (ps.take j)++[q]):=HSt.out;clear hpq HSt
      go_wp2_with fail
      refine HCl.out.mono ?_;rintro e w2 ⟨rfl,hL2⟩;have HB2:=hide ((hL2.block hgr).trans HB.out);have ci:w2.cell? ⟨gb,i,none⟩=some old:=by rw[cell_of_row _ _ _ _ _ _ HB2.out];exact HCI.out
      have fi:w2.frozen? ⟨gb,i,none⟩=false:=frozen_rw i HB2.out;have hg2:gb<w2.heap.size:=(Array.getElem?_eq_some_iff.1 HB2.out).1;have HO2:=hide (HO.out.trans (OnlyB.of_later hL2));have hiz:(i:Int)<(ps.length:Int):=by omega
      clear hL2 HCl;go_wp2
      go_roundg (ps.length- (j+1))
      case measure=>omega
      case rel=>
       refine⟨i+1,j+1,cr.setIfInBounds i (.slice ua un uc),by go_num,by go_num,by omega,by omega,?_,(set_at HB2.out _:_=_),(by simpa using hcr:_=_),?_,?_,(HO2.out.setCell (x:=⟨gb,i,none⟩) rfl _:OnlyB _ _ _)⟩
       ·show _=_;rw[HSt1.out,List.length_append,←HI.out];rfl
       ·intro t ht;rw[HSt1.out,List.map_append]
        by_cases hti:t=i
        ·subst hti;rw[Array.getElem?_setIfInBounds_self_of_lt (by omega),List.getElem?_append_right (by rw[List.length_map,←HI.out];omega),List.length_map,←HI.out,Nat.sub_self];simp[HQ1.out]
        ·rw[Array.getElem?_setIfInBounds_ne (by omega),HLo.out t (by omega),List.getElem?_append_left (by rw[List.length_map,←HI.out];omega)]
       ·intro t h1 h2;rw[Array.getElem?_setIfInBounds_ne (by omega)];exact HHi.out t (by omega) h2
     ·rw[hpq] at HCl HSt;have HSt1:Hid (keptL p (ps.take (j+1))=keptL p (ps.take j)):=HSt.out;clear hpq HSt
      go_wp2_with fail
      refine HCl.out.mono ?_;rintro e w2 ⟨rfl,hL2⟩;have HB2:=hide ((hL2.block hgr).trans HB.out);have HO2:=hide (HO.out.trans (OnlyB.of_later hL2));clear hL2 HCl;go_wp2
      go_roundg (ps.length- (j+1))
      case measure=>omega
      case rel=>
       refine⟨i,j+1,cr,rfl,by go_num,by omega,by omega,?_,HB2,HZ,?_,(fun t h1 h2=>HHi.out t (by omega) h2),HO2⟩
       ·show _=_;rw[HSt1.out];exact HI.out
       ·show∀t,_;rw[HSt1.out];exact HLo.out
    ·obtain rfl:j=ps.length:=by omega
     have hltz:¬(ps.length:Int)<(ps.length:Int):=by omega
     have hcl:∀ty,(Builtin.clear_ #[62] ty #[.slice (some ⟨gb,i,none⟩) (ps.length-i) (cap-i)]).run Tryz.prog wr=.ok (.tuple #[]) (wr.setCells gb i (List.replicate (ps.length-i) (.slice none 0 0))):=fun ty=>
      Lib.run_clear_slice wr _ _ ty _ Tryz.underlying62 zeroBinds rfl rfl gb i _ _ (by omega) (fun t ht=>by rw[cell_of_row _ _ _ _ _ _ HB.out,Array.getElem?_eq_getElem (by omega)];rfl) (fun t ht=>frozen_rw _ HB.out)
     have hiz:(i:Int)≤(ps.length:Int):=by omega
     have hic:(i:Int)≤(cap:Int):=by omega
     have hicn:¬cap=i:=by omega
     have hpz:(ps.length:Int)≤(cap:Int):=by omega
     go_wp2;go_ret;obtain⟨cr',h1,h2,h3⟩:=setCells_row gb (List.replicate (ps.length-i) (.slice none 0 0)) i wr cr _ _ HB.out;have hO2:=HO.out.trans (setCells_only gb (List.replicate (ps.length-i) (.slice none 0 0)) i wr);have hk:keptL p (ps.take ps.length)=keptL p ps:=by rw[List.take_length]
     have hil:i=(keptL p ps).length:=by rw[←hk];exact HI.out
     refine⟨.slice (some ⟨gb,0,none⟩) i cap,rfl,⟨?_,fun q hq=> ?_,?_⟩,rfl,hO2⟩
     ·rw[←hil];refine⟨by rw[List.length_map,←hil];omega,Or.inr ⟨gb,cap,cr',rfl,hbg,h1,by omega,hcm,by rw[h2];omega,?_⟩⟩
      apply List.ext_getElem?
      intro t;rw[Nat.mul_one,List.getElem?_take]
      by_cases ht:t<i
      ·rw[if_pos ht,Array.getElem?_toList,h3 t ht,HLo.out t ht,hk,List.getElem?_eq_getElem (by rw[List.length_map,←hil];exact ht)];rfl
      ·rw[if_neg ht,List.getElem?_eq_none (by rw[List.length_map,←hil];omega)]
     ·have hqm:q∈ps:=(List.mem_filter.1 hq).1;exact⟨own_block (HPW.out.1 q hqm).1 fun k e=>hO2.block k (Kind.own_lt (HPW.out.1 q hqm).1 e).2 (fun e'=>(HPW.out.1 q hqm).2 k e e'),(HPW.out.1 q hqm).2⟩
     ·exact HPW.out.2.filter _
end Go.Proofs.YtafmbokfkbccaaaGreatDoor
namespace Go.Proofs.YtafmbokfkbccaaaGreatDoor
open Go.RowKit Go.Sort
def faultFrom (l:List FactD):Nat→Nat→Int×Int
 |0,_=>(0,0)
 |n+1,k=>if wrongF (l.getD k noFact)≠0 then(wrongF (l.getD k noFact),k) else if 0<k∧0≤cmpF (l.getD (k-1) noFact) (l.getD k noFact) then(2,k) else faultFrom l n (k+1)
def setFault (l:List FactD):Int×Int:=if 200<l.length then(5,0) else faultFrom l l.length 0
theorem faultFrom_step (l:List FactD) {k:Nat} (h:k<l.length):faultFrom l (l.length-k) k=
  if wrongF (l.getD k noFact)≠0 then(wrongF (l.getD k noFact),(k:Int)) else if 0<k∧0≤cmpF (l.getD (k-1) noFact) (l.getD k noFact) then(2,(k:Int)) else faultFrom l (l.length- (k+1)) (k+1):=by
 obtain⟨n,hn⟩:∃n,l.length-k=n+1:=⟨l.length-k-1,by omega⟩;rw[hn,show l.length- (k+1)=n by omega]
 rfl
theorem wrap_nat (j:Nat) (h:j≤3518437208883):IntKind.i64.wrap (j:Int)=(j:Int):=by
 simp[IntKind.wrap,IntKind.bits,IntKind.signed];omega
theorem fault_cells {w:World} {R:Nat} {u0 u1:Value} {t:TypeId} {fr:Nat×Nat} (h:w.heap[R]?=some (.cells #[u0,u1] t fr)) (x y:Value):
  ((w.setCell ⟨R,0,none⟩ x).setCell ⟨R,1,none⟩ y).cell? ⟨R,0,none⟩=some x∧((w.setCell ⟨R,0,none⟩ x).setCell ⟨R,1,none⟩ y).cell? ⟨R,1,none⟩=some y:=by
 have h2:=heap_setCell_at (j:=1) (heap_setCell_at (j:=0) h x) y;exact⟨by rw[cell_of_row _ _ _ _ _ _ h2];rfl,by rw[cell_of_row _ _ _ _ _ _ h2];rfl⟩
theorem ret_fault {a b c d:Int} (h:(a,b)=(c,d)):Ending.returned (.agg #[.int .i64 a,.int .i64 b])=.returned (.agg #[.int .i64 c,.int .i64 d]):=by
 cases h;rfl
set_option maxHeartbeats 2000000 in
theorem setC (v:Value) (l:List FactD) (w:World) (hf:Facts w v l):
  Calls Tryz.prog 120 #[v] w fun e w'=>e=.returned (.agg #[.int .i64 (setFault l).1,.int .i64 (setFault l).2])∧Later w w':=by
 have mx:=mixed;have HF:=hide hf;obtain⟨a,cap,rfl,hn,hz⟩:=hf.addr;clear hf
 by_cases hbig:200<l.length
 ·have e:setFault l=(5,0):=by unfold setFault;rw[if_pos hbig]
  rw[e]
  go_enter Tryz.func120,Tryz.ntmps120
  go_wp2;exact bodyPost_ret (v:=.agg #[.int .i64 5,.int .i64 0]) (by simp[results,Tryz.results120,go_sem]) rfl ⟨rfl,(by repeat (first|exact Later.refl _|assumption|refine Later.drewN ?_ _|refine Later.drew ?_|refine Later.alloc ?_ _|refine Later.grow ?_ _))⟩
 ·have e:setFault l=faultFrom l l.length 0:=by unfold setFault;rw[if_neg hbig]
  rw[e];clear e
  go_enter Tryz.func120,Tryz.ntmps120
  go_wp2
  go_loopw [12] (fun i wr=>∃k:Nat,k≤l.length∧i=.int .i64 k∧Later (w.alloc (.cells #[.int .i64 0,.int .i64 0] 75)) wr∧Hid (faultFrom l l.length 0=faultFrom l (l.length-k) k)) (fun i _=>l.length- (intOf i).toNat)
  case atStart=>exact⟨0,by omega,rfl,Later.refl _,(rfl:_=_)⟩
  case round=>
   obtain⟨k,hk,rfl,hL,HE⟩:=hrel;have hL0:Later w wr:=((Later.refl _).alloc _).trans hL;have hsz:w.heap.size<wr.heap.size:=by have:=hL.size;simp at this;omega
   by_cases hlt:k<l.length
   ·rcases hz with rfl|⟨b,off,rfl⟩
    ·simp at hlt
    have hltz:(k:Int)<(l.length:Int):=by omega
    obtain⟨hb,ax,lx,cx,g1,g2,fx⟩:=(HF.out.later hL0).at hlt;have hst:=faultFrom_step l hlt;have HWr:Hid (∀w',Later wr w'→Calls Tryz.prog 59 #[.agg #[.string (l.getD k noFact).1,.slice ax lx cx]] w' fun e w''=>e=.returned (.int .i64 (wrongF (l.getD k noFact)))∧Later w' w''):=
     fun w' hw=>wrong _ _ w' (fx.later hw)
    have FX:=hide fx;clear fx
    by_cases hwz:wrongF (l.getD k noFact)=0
    ·rw[if_neg (by omega)] at hst;rw[hwz] at HWr
     by_cases hk0:k=0
     ·have F:Hid (faultFrom l l.length 0=faultFrom l (l.length- (k+1)) (k+1)):=by show _=_;rw[HE.out,hst,if_neg (by omega)]
      have hd:decide (0<k)=false:=by rw[decide_eq_false_iff_not];omega
      clear hk0;generalize(l.getD k noFact).1=nk at*;clear hst
      go_wp2_with fail
      refine(HWr.out _ ((Later.refl _).alloc _)).mono ?_;rintro e w1 ⟨rfl,hL1⟩;go_wp2
      go_quiet (fail)
      go_wp2
      go_roundw
      case rel=>exact⟨k+1,by omega,by go_num,(hL.trans (((Later.refl _).alloc _).trans hL1)).drewN _,F⟩
      case measure=>simp[intOf];omega
     ·obtain⟨j,rfl⟩:∃j,k=j+1:=⟨k-1,by omega⟩;rw[Nat.add_sub_cancel] at hst;have hjl:j<l.length:=by omega
      have hjz:(j:Int)<(l.length:Int):=by omega
      have hd:(0:Int)<(j:Int)+1:=by omega
      have hwj:IntKind.i64.wrap (j:Int)=(j:Int):=wrap_nat j (by omega);generalize hfk:l.getD (j+1) noFact=f at*;have HFK:=hide hfk;clear hfk;obtain⟨nk,lk⟩:=f;dsimp only at*
      go_wp2_with fail
      refine(HWr.out _ ((Later.refl _).alloc _)).mono ?_;rintro e w1 ⟨rfl,hL1⟩;have hLR:Later (w.alloc (.cells #[.int .i64 0,.int .i64 0] 75)) w1:=hL.trans (((Later.refl _).alloc _).trans hL1);have hL01:Later w w1:=((Later.refl _).alloc _).trans hLR;have hR:w1.heap[w.heap.size]?=some (.cells #[.int .i64 0,.int .i64 0] 75 (0,0)):=by rw[hLR.block (by simp),heap_alloc_new]
      have q0:w1.cell? ⟨w.heap.size,0,none⟩=some (.int .i64 0):=by rw[cell_of_row _ _ _ _ _ _ hR];rfl
      have q1:w1.cell? ⟨w.heap.size,1,none⟩=some (.int .i64 0):=by rw[cell_of_row _ _ _ _ _ _ hR];rfl
      have p0:w1.frozen? ⟨w.heap.size,0,none⟩=false:=frozen_of_row 0 hR;have p1:w1.frozen? ⟨w.heap.size,1,none⟩=false:=frozen_of_row 1 hR;have HRR:=hide hR;clear hR;have hLw:Later wr w1:=((Later.refl _).alloc _).trans hL1;obtain⟨ay,ly,cy,y1,y2,fy⟩:=(HF.out.later hL01).grown hjl;have b0:=cell_later hL1 (p:=⟨wr.heap.size,0,none⟩) (v:=.string nk) (by simp) (by simp);have b1:=cell_later hL1 (p:=⟨wr.heap.size,1,none⟩) (v:=.slice ax lx cx) (by simp) (by simp);have hC:∀q os,Calls Tryz.prog 128 #[.agg #[.string (l.getD j noFact).1,.slice ay ly cy],.agg #[.string nk,.slice ax lx cx]] (grow (w1.drewN q) os) fun e w''=>e=.returned (.int .i64 (cmpF (l.getD j noFact) (nk,lk)))∧Later (grow (w1.drewN q) os) w'':=
       fun q os=>compareF _ _ _ _ _ (fy.later ⟨q,os,rfl⟩) ((FX.out.later hLw).later ⟨q,os,rfl⟩)
      have HC:=hide hC;clear hC fy;generalize cmpF (l.getD j noFact) (nk,lk)=cm at*;generalize(l.getD j noFact).1=nj at*
      by_cases hcm:0≤cm
      ·have F:Hid (faultFrom l l.length 0=(2,((j+1:Nat):Int))):=by show _=_;rw[HE.out,hst,if_pos ⟨by omega,hcm⟩]
       clear hst;go_wp2
       go_quiet_grown ((go_at_call 128;exact Calls.grown_of (HC.out _ _)))
       dsimp only;have hLW:Later w1 (grow (w1.drewN nq) osq):=⟨_,_,rfl⟩;generalize grow (w1.drewN nq) osq=w2 at hLW⊢;have hR:w2.heap[w.heap.size]?=some (.cells #[.int .i64 0,.int .i64 0] 75 (0,0)):=by rw[hLW.block (by have:=hLw.size;omega)];exact HRR.out
       have q0:w2.cell? ⟨w.heap.size,0,none⟩=some (.int .i64 0):=by rw[cell_of_row _ _ _ _ _ _ hR];rfl
       have q1:w2.cell? ⟨w.heap.size,1,none⟩=some (.int .i64 0):=by rw[cell_of_row _ _ _ _ _ _ hR];rfl
       have p0:w2.frozen? ⟨w.heap.size,0,none⟩=false:=frozen_of_row 0 hR;have p1:w2.frozen? ⟨w.heap.size,1,none⟩=false:=frozen_of_row 1 hR;have HR2:=hide hR;clear hR;go_wp2;obtain⟨r0,r1⟩:=fault_cells HR2.out (.int .i64 2) (.int .i64 ((j:Int)+1));refine bodyPost_ret (v:=.agg #[.int .i64 2,.int .i64 ((j:Int)+1)]) (by simp[results,Tryz.results120,go_sem,r0,r1]) rfl ⟨ret_fault (by rw[F.out];simp),?_⟩;exact((hL01.trans hLW).setCell (Nat.le_refl _) _).setCell (Nat.le_refl _) _
      ·have F:Hid (faultFrom l l.length 0=faultFrom l (l.length- (j+1+1)) (j+1+1)):=by show _=_;rw[HE.out,hst,if_neg (fun h=>hcm h.2)]
       clear hst;go_wp2
       go_quiet_grown ((go_at_call 128;exact Calls.grown_of (HC.out _ _)))
       go_wp2
       go_roundw
       case rel=>exact⟨j+1+1,by omega,by go_num,hLR.trans ⟨_,_,rfl⟩,F⟩
       case measure=>simp[intOf];omega
    ·have F:Hid (faultFrom l l.length 0=(wrongF (l.getD k noFact),(k:Int))):=by show _=_;rw[HE.out,hst,if_pos hwz]
     have hwz':(wrongF (l.getD k noFact)==0)=false:=by simpa using hwz
     generalize wrongF (l.getD k noFact)=we at*;generalize(l.getD k noFact).1=nk at*;clear hst
     go_wp2_with fail
     refine(HWr.out _ ((Later.refl _).alloc _)).mono ?_;rintro e w1 ⟨rfl,hL1⟩;have hLR:Later (w.alloc (.cells #[.int .i64 0,.int .i64 0] 75)) w1:=hL.trans (((Later.refl _).alloc _).trans hL1);have hL01:Later w w1:=((Later.refl _).alloc _).trans hLR;have hR:w1.heap[w.heap.size]?=some (.cells #[.int .i64 0,.int .i64 0] 75 (0,0)):=by rw[hLR.block (by simp),heap_alloc_new]
     have q0:w1.cell? ⟨w.heap.size,0,none⟩=some (.int .i64 0):=by rw[cell_of_row _ _ _ _ _ _ hR];rfl
     have q1:w1.cell? ⟨w.heap.size,1,none⟩=some (.int .i64 0):=by rw[cell_of_row _ _ _ _ _ _ hR];rfl
     have p0:w1.frozen? ⟨w.heap.size,0,none⟩=false:=frozen_of_row 0 hR;have p1:w1.frozen? ⟨w.heap.size,1,none⟩=false:=frozen_of_row 1 hR;have HRR:=hide hR;clear hR;go_wp2;obtain⟨r0,r1⟩:=fault_cells HRR.out (.int .i64 we) (.int .i64 k);refine bodyPost_ret (v:=.agg #[.int .i64 we,.int .i64 k]) (by simp[results,Tryz.results120,go_sem,r0,r1]) rfl ⟨ret_fault (by rw[F.out]),?_⟩;exact(hL01.setCell (Nat.le_refl _) _).setCell (Nat.le_refl _) _
   ·have F:Hid (faultFrom l l.length 0=(0,0)):=by show _=_;rw[HE.out,show l.length-k=0 by omega];rfl
    have q0:wr.cell? ⟨w.heap.size,0,none⟩=some (.int .i64 0):=by rw[hL.cell (by simp)];simp
    have q1:wr.cell? ⟨w.heap.size,1,none⟩=some (.int .i64 0):=by rw[hL.cell (by simp)];simp
    have p0:wr.frozen? ⟨w.heap.size,0,none⟩=false:=by rw[hL.frozen (by simp)];simp
    have p1:wr.frozen? ⟨w.heap.size,1,none⟩=false:=by rw[hL.frozen (by simp)];simp
    go_wp2;have hR:wr.heap[w.heap.size]?=some (.cells #[.int .i64 0,.int .i64 0] 75 (0,0)):=by rw[hL.block (by simp),heap_alloc_new]
    obtain⟨r0,r1⟩:=fault_cells hR (.int .i64 0) (.int .i64 0);refine bodyPost_ret (v:=.agg #[.int .i64 0,.int .i64 0]) (by simp[results,Tryz.results120,go_sem,r0,r1]) rfl ⟨ret_fault (by rw[F.out]),?_⟩;exact(hL0.setCell (Nat.le_refl _) _).setCell (Nat.le_refl _) _
end Go.Proofs.YtafmbokfkbccaaaGreatDoor
namespace Go.Proofs.YtafmbokfkbccaaaGreatDoor
open Go.RowKit Go.Sort Go.Maps
theorem faultFrom_zero (l:List FactD):∀(n k:Nat),(faultFrom l n k).1=0→∀i,k≤i→i<k+n→wrongF (l.getD i noFact)=0∧(0<i→cmpF (l.getD (i-1) noFact) (l.getD i noFact)<0)
 |0,k,_,i,h1,h2=>by omega
 |n+1,k,h,i,h1,h2=>by
  simp only[faultFrom] at h;split at h
  ·rename_i hw;exact absurd h hw
  ·rename_i hw;split at h
   ·cases h
   ·rename_i hc
    by_cases e:i=k
    ·subst e;refine⟨Classical.byContradiction hw,fun h0=> ?_⟩;exact Classical.byContradiction fun hn=>hc ⟨h0,by omega⟩
    ·exact faultFrom_zero l n (k+1) h i (by omega) (by omega)
theorem rises_of {l:List FactD} (h:∀i,0<i→i<l.length→cmpF (l.getD (i-1) noFact) (l.getD i noFact)<0):Rises l:=by
 have key:∀(d i:Nat),i+d+1<l.length→cmpF (l.getD i noFact) (l.getD (i+d+1) noFact)<0:=by
  intro d
  induction d with
  |zero=>intro i hi;have:=h (i+1) (by omega) (by omega);simpa using this
  |succ d ih=>
   intro i hi;have h1:=ih i (by omega);have h2:=h (i+(d+1)+1) (by omega) hi;have e:i+(d+1)+1-1=i+d+1:=by omega
   rw[e] at h2;exact three_cmpF.trans _ _ _ h1 h2
 unfold Rises;rw[List.pairwise_iff_getElem];intro i j hi hj hij;have:=key (j-i-1) i (by omega);rw[show i+(j-i-1)+1=j by omega] at this;rw[List.getD_eq_getElem?_getD,List.getD_eq_getElem?_getD,List.getElem?_eq_getElem hi,List.getElem?_eq_getElem hj] at this;exact this
theorem set_right {l:List FactD} (h:(setFault l).1=0):l.length≤200∧Rises l∧∀f∈l,wrongF f=0:=by
 unfold setFault at h;split at h
 ·simp at h
 ·rename_i hl;have hz:=faultFrom_zero l l.length 0 h;refine⟨by omega,rises_of fun i h0 hi=>(hz i (Nat.zero_le _) (by omega)).2 h0,fun f hf=> ?_⟩;obtain⟨i,hi,e⟩:=List.getElem_of_mem hf;have:=(hz i (Nat.zero_le _) (by omega)).1;rw[List.getD_eq_getElem?_getD,List.getElem?_eq_getElem hi] at this;rw[←e];exact this
theorem row_block {lo:Nat} {ty:TypeId} {w w':World} {v:Value} {n:Nat} {xs:List Value} (h:w.ownsRow lo ty 1 v n xs) (hk:∀k,v.ownBlock=some k→w'.heap[k]?=w.heap[k]?):w'.ownsRow lo ty 1 v n xs:=by
 refine⟨h.1,?_⟩;rcases h.2 with e|⟨g,cap,cur,rfl,hbg,hg,r⟩
 ·exact Or.inl e
 ·exact Or.inr ⟨g,cap,cur,rfl,hbg,by rw[hk g rfl];exact hg,r⟩
set_option maxRecDepth 100000 in
set_option maxHeartbeats 2000000 in
theorem risenC (v:Value) (ps:List (Value×List BindD)) (lo:Nat) (w0 w:World) (h0:Later w0 w) (hlo:w0.heap.size≤lo) (hv:Lists 158 190 lo w v ps) (hl:ps.length≤20000) (hs:∀q∈ps,q.2.length≤20):
  Calls Tryz.prog 162 #[v] w fun e w'=>e=.returned v∧listK.sl (From lo) w' v (sortBy cmpBs (ps.map fun q=>sortB q.2))∧Later w0 w':=by
 obtain⟨a,cap,rfl⟩:=hv.slice;have hvl:=fun k e=>hv.lo_le k e;obtain⟨ho,hp,hpw⟩:=hv;have HR:=hide ho;have HA:Hid (∀q∈ps,apart q.1 (.slice a ps.length cap)):=fun q hq=>(hp q hq).2;have HOw:Hid (∀q∈ps.drop 0,bindK.own 190 lo w q.1 q.2):=fun q hq=>(hp q (by simpa using hq)).1;have HQl:Hid (∀q∈ps,∀k,q.1.ownBlock=some k→lo≤k):=fun q hq k e=>(Kind.own_lt (hp q hq).1 e).1;have HPW:=hide hpw;have HS:=hide hs;have H0:=hide h0;have HVL:=hide hvl;clear ho hp hpw hs h0 hvl
 go_enter Tryz.func162,Tryz.ntmps162
 go_wp2
 go_loopg [7] ps.length (fun gg i wr=>∃j:Nat,j+gg=ps.length∧i=.int .i64 j∧Hid (wr.ownsRow lo 158 1 (.slice a ps.length cap) ps.length (ps.map (·.1)))∧Hid (∀q∈ps.take j,bindK.sl (ofBlock q.1) wr q.1 (sortB q.2))∧Hid (∀q∈ps.drop j,bindK.own 190 lo wr q.1 q.2)∧Hid (Later w0 wr))
 case atStart=>exact⟨0,by omega,rfl,HR,(fun q hq=>by simp at hq),HOw,H0⟩
 case round=>
  clear HR HOw H0;obtain⟨j,hj,rfl,HR,HT,HOw,HL⟩:=hrel
  by_cases hlt:j<ps.length
  ·obtain⟨q,hq⟩:∃q,ps[j]?=some q:=⟨_,List.getElem?_eq_getElem hlt⟩;have hdr:ps.drop j=q::ps.drop (j+1):=by
    obtain⟨h1,e1⟩:=List.getElem?_eq_some_iff.1 hq;rw[List.drop_eq_getElem_cons h1,e1]
   have hqo:bindK.own 190 lo wr q.1 q.2:=HOw.out q (by rw[hdr];exact List.mem_cons_self);have hqm:=List.mem_of_getElem? hq;obtain⟨b,hab,hcell,hbl⟩:∃b,a=some ⟨b,0,none⟩∧wr.cell? ⟨b,j,none⟩=some q.1∧b<wr.heap.size:=by
    rcases HR.out.2 with⟨e,e'⟩|⟨g,cap',cur,e,hbg,hg,_⟩
    ·omega
    ·simp only[Value.slice.injEq] at e;obtain⟨rfl,_,rfl⟩:=e;have:=HR.out.cells (g:=g) rfl j q.1 (by rw[List.getElem?_map,hq];rfl);rw[Addr.add_lit,Nat.zero_add] at this;exact⟨g,rfl,this,(Array.getElem?_eq_some_iff.1 hg).1⟩
   subst hab;have HSort:=hide (sortBC lo q.1 q.2 wr hqo (by have:=HS.out q hqm;omega));have hpair:(ps.take j++q::ps.drop (j+1)).Pairwise fun p q=>apart p.1 q.1:=by rw[←hdr,List.take_append_drop];exact HPW.out
   rw[List.pairwise_append] at hpair;obtain⟨_,hp2,hp3⟩:=hpair;have hafter:=(List.pairwise_cons.1 hp2).1;have HBef:Hid (∀p∈ps.take j,apart p.1 q.1):=fun p hp=>hp3 p hp q List.mem_cons_self;have HAft:=hide hafter;have HQA:Hid (apart q.1 (.slice (some ⟨b,0,none⟩) ps.length cap)):=HA.out q hqm;have HQO:=hide hqo;have HDr:=hide hdr;have HQ:=hide hq;obtain⟨ua,un,uc,hqu⟩:∃a n c,q.1=.slice a n c:=by obtain⟨a,c,e⟩:=Kind.own_slice hqo;exact⟨a,_,c,e⟩
   have HQU:=hide hqu;rw[hqu] at hcell HSort;clear hq hdr hqo hqm hp2 hp3 hafter hqu
   go_wp2_with fail
   refine HSort.out.mono ?_;rintro e w2 ⟨rfl,hsl,hO⟩;have HSL:Hid (bindK.sl (ofBlock q.1) w2 q.1 (sortB q.2)):=by rw[HQU.out];exact hsl
   have hO':OnlyB q.1.ownBlock wr w2:=by rw[HQU.out];exact hO
   have HO:=hide hO';clear hsl hO hO' HSort;go_wp2
   go_roundg (ps.length- (j+1))
   case measure=>omega
   case rel=>
    refine⟨j+1,by omega,by go_num,?_,?_,?_,?_⟩
    ·exact row_block HR.out fun k e=>HO.out.block k (HR.out.lt k e).2 (fun e'=>HQA.out k e' e)
    ·intro p hp;rw[List.take_add_one,HQ.out] at hp;rcases List.mem_append.1 hp with h|h
     ·exact Kind.sl_kept (HT.out p h) HO.out.size fun k hk hB=>HO.out.block k hk (fun e'=>HBef.out p h k hB e')
     ·simp at h;rw[h];exact HSL.out
    ·intro p hp;have h1:=HOw.out p (by rw[HDr.out];exact List.mem_cons_of_mem _ hp);exact own_block h1 fun k e=>HO.out.block k (Kind.own_lt h1 e).2 (fun e'=>HAft.out p hp k e' e)
    ·exact HO.out.later HL.out fun k e=>by have:=(Kind.own_lt HQO.out e).1;omega
  ·have e:j=ps.length:=by omega
   have HT':Hid (∀q∈ps,bindK.sl (ofBlock q.1) wr q.1 (sortB q.2)):=by
    have:=HT.out;rw[e,List.take_length] at this;exact this
   have hm1:(ps.map fun q=>(q.1,sortB q.2)).map (·.1)=ps.map (·.1):=by rw[List.map_map];rfl
   have hm2:(ps.map fun q=>(q.1,sortB q.2)).map (·.2)=ps.map fun q=>sortB q.2:=by rw[List.map_map];rfl
   have HSort:=sortLC lo 158 (.slice a ps.length cap) (ps.map fun q=>(q.1,sortB q.2)) wr (by rw[hm1,List.length_map];exact HR.out) (fun p hp=>by
    obtain⟨q,hq,rfl⟩:=List.mem_map.1 hp;exact Kind.sl_mono (HT'.out q hq) fun k _ hB=>⟨fun e=>HA.out q hq k hB e,HQl.out q hq k hB⟩) (by rw[List.length_map];omega)
   rw[hm2] at HSort;have HSo:=hide HSort;clear HSort hm1 hm2 e
   go_wp2_with fail
   refine HSo.out.mono ?_;rintro e w2 ⟨rfl,hsl,hO⟩;have HSL:=hide hsl;have HL2:=hide (hO.later HL.out fun k e=>by have:=HVL.out k e;omega);clear hsl hO HSo;go_wp2;go_ret;exact⟨rfl,HSL.out,HL2.out⟩
set_option maxRecDepth 100000 in
theorem errOf (a b:Int) (w:World):(Instr.field 75 (.agg #[.int .i64 a,.int .i64 b]) 0).run Tryz.prog w=.ok (.int .i64 a) w:=by
 first|kernel_rfl|(simp[Instr.field,run_underlying Tryz.underlying75])|go_simp
def errW (body:List AtomD) (fs os:List FactD):Int:=if wrongBody body≠0 then wrongBody body else if(setFault fs).1≠0 then(setFault fs).1 else(setFault os).1
set_option maxRecDepth 100000 in
set_option maxHeartbeats 1000000 in
theorem wrongWC (body:List AtomD) (v fv ov:Value) (fs os:List FactD) (w:World) (hv:atomK.sl Anyw w v body) (hf:Facts w fv fs) (ho:Facts w ov os):
  Calls Tryz.prog 156 #[v,fv,ov] w fun e w'=>e=.returned (.int .i64 (errW body fs os))∧Below w.heap.size w w':=by
 have HB:=hide (chkBodyC body v w hv);have HF:Hid (∀w1,Below w.heap.size w w1→Calls Tryz.prog 120 #[fv] w1 fun e w'=>e=.returned (.agg #[.int .i64 (setFault fs).1,.int .i64 (setFault fs).2])∧Hid (Below w.heap.size w w')):=fun w1 h1=>
  (setC fv fs w1 (hf.below h1)).mono fun e w' ⟨he,hL⟩=>⟨he,below_trans h1 hL.below h1.size⟩
 have HO:Hid (∀w1,Below w.heap.size w w1→Calls Tryz.prog 120 #[ov] w1 fun e w'=>e=.returned (.agg #[.int .i64 (setFault os).1,.int .i64 (setFault os).2])∧Hid (Below w.heap.size w w')):=fun w1 h1=>
  (setC ov os w1 (ho.below h1)).mono fun e w' ⟨he,hL⟩=>⟨he,below_trans h1 hL.below h1.size⟩
 obtain⟨a,cap,rfl⟩:=Kind.slice hv;obtain⟨fa,fc,rfl⟩:=sliceFacts hf;obtain⟨oa,oc,rfl⟩:=sliceFacts ho;clear hv hf ho;have E:errW body fs os=if wrongBody body≠0 then wrongBody body else if(setFault fs).1≠0 then(setFault fs).1 else(setFault os).1:=rfl;generalize errW body fs os=R at*;generalize wrongBody body=eb at*;generalize setFault fs=ef at*;generalize setFault os=eo at*;obtain⟨f1,f2⟩:=ef;obtain⟨o1,o2⟩:=eo;dsimp only at*
 by_cases h0:eb=0
 ·subst h0;rw[if_neg (by simp)] at E
  by_cases h1:f1=0
  ·subst h1;rw[if_neg (by simp)] at E;have HE:=hide E;have hfe:=errOf;clear E
   go_enter Tryz.func156,Tryz.ntmps156
   go_wp2_with fail
   refine HB.out.mono ?_;rintro e w1 ⟨rfl,hB1⟩;have H1:=hide (HF.out w1 hB1);clear HB HF hB1
   go_wp2_with fail
   refine H1.out.mono ?_;rintro e w2 ⟨rfl,hB2⟩;have H2:=hide (HO.out (w2.alloc (.cells #[.int .i64 0,.int .i64 f2] 75)) (hB2.out.alloc hB2.out.size _));clear HO H1 hB2
   go_wp2_with fail
   refine H2.out.mono ?_;rintro e w3 ⟨rfl,hB3⟩;clear H2;go_wp2;go_ret;exact⟨by rw[HE.out];rfl,hB3.out⟩
  ·rw[if_pos h1] at E;have HE:=hide E;have hq:(f1 != 0)=true:=by simpa using h1
   clear E h1 HO
   go_enter Tryz.func156,Tryz.ntmps156
   go_wp2_with fail
   refine HB.out.mono ?_;rintro e w1 ⟨rfl,hB1⟩;have H1:=hide (HF.out w1 hB1);clear HB HF hB1
   go_wp2_with fail
   refine H1.out.mono ?_;rintro e w2 ⟨rfl,hB2⟩;clear H1;go_wp2;go_ret;exact⟨by rw[HE.out];rfl,hB2.out.alloc hB2.out.size _⟩
 ·rw[if_pos h0] at E;have HE:=hide E;have hq:(eb != 0)=true:=by simpa using h0
  clear E h0 HO HF
  go_enter Tryz.func156,Tryz.ntmps156
  go_wp2_with fail
  refine HB.out.mono ?_;rintro e w1 ⟨rfl,hB1⟩;have HB1:=hide hB1;clear HB hB1;go_wp2;go_ret;exact⟨by rw[HE.out];rfl,HB1.out⟩
def WithT (w:World) (v:Value) (er:Int) (body:List AtomD) (fs:List FactD) (at_:Int) (os:List FactD):Prop:=
 if errW body fs os≠0 then v=.slice none 0 0∧er=errW body fs os else match allB (pickB fs at_ os) body with
  |none=>v=.slice none 0 0∧er=4
  |some R=>er=0∧listK.sl Anyw w v R
theorem errW_zero {body:List AtomD} {fs os:List FactD} (h:errW body fs os=0):wrongBody body=0∧(setFault fs).1=0∧(setFault os).1=0:=by
 unfold errW at h;split at h
 ·rename_i h1;exact absurd h h1
 ·rename_i h1;split at h
  ·rename_i h2;exact absurd h h2
  ·rename_i h2;exact⟨Classical.byContradiction h1,Classical.byContradiction h2,h⟩
theorem wrongAtoms_all:∀{l:List AtomD},wrongAtoms l=0→∀a∈l,wrongAtom a=0
 |[],_,a,ha=>by cases ha
 |b::l,h,a,ha=>by
  unfold wrongAtoms at h
  by_cases hb:wrongAtom b=0
  ·rcases List.mem_cons.1 ha with e|h1
   ·rw[e];exact hb
   ·refine wrongAtoms_all ?_ a h1;simpa[hb] using h
  ·simp[hb] at h
theorem body_right {body:List AtomD} (h:wrongBody body=0):body.length≤5∧∀a∈body,wrongAtom a=0:=by
 unfold wrongBody at h;split at h
 ·simp at h
 ·split at h
  ·rename_i h5 ha;exact⟨by omega,wrongAtoms_all ha⟩
  ·rename_i hne;exact absurd h hne
theorem pick_right {fs os:List FactD} {at_:Int} {P:List FactD→Prop} (h1:P fs) (h2:P os) (n:Nat):P (pickB fs at_ os n):=by
 unfold pickB;split
 ·exact h2
 ·exact h1
def WithL (lo:Nat) (w:World) (v:Value) (er:Int) (body:List AtomD) (fs:List FactD) (at_:Int) (os:List FactD):Prop:=
 if errW body fs os≠0 then v=.slice none 0 0∧er=errW body fs os else match allB (pickB fs at_ os) body with
  |none=>v=.slice none 0 0∧er=4
  |some R=>er=0∧listK.sl (From lo) w v R
theorem WithL.any {lo:Nat} {w:World} {v:Value} {er:Int} {body:List AtomD} {fs os:List FactD} {at_:Int} (h:WithL lo w v er body fs at_ os):WithT w v er body fs at_ os:=by
 unfold WithL at h;unfold WithT;split
 ·rename_i h0;rw[if_pos h0] at h;exact h
 ·rename_i h0;rw[if_neg h0] at h;cases e:allB (pickB fs at_ os) body with
  |none=>rw[e] at h;exact h
  |some R=>rw[e] at h;exact⟨h.1,Kind.sl_any h.2⟩
set_option maxRecDepth 100000 in
set_option maxHeartbeats 2000000 in
theorem withL (body:List AtomD) (v fv ov:Value) (fs os:List FactD) (at_:Int) (w:World) (hv:atomK.sl Anyw w v body) (hf:Facts w fv fs) (ho:Facts w ov os):
  Calls Tryz.prog 88 #[v,fv,.int .i64 at_,ov] w fun e w'=>∃v' er,e=.returned (.tuple #[v',.int .i64 er])∧WithL w.heap.size w' v' er body fs at_ os∧Below w.heap.size w w':=by
 obtain⟨a,cap,hva⟩:=Kind.slice hv;have HW:Hid (Calls Tryz.prog 156 #[v,fv,ov] (w.alloc (.cells #[v] 73)) fun e w'=>e=.returned (.int .i64 (errW body fs os))∧Below (w.alloc (.cells #[v] 73)).heap.size (w.alloc (.cells #[v] 73)) w'):=
  wrongWC body v fv ov fs os _ (Kind.sl_later hv ((Later.refl _).alloc _)) (hf.later ((Later.refl _).alloc _)) (ho.later ((Later.refl _).alloc _))
 have HV:=hide hv;have HF:=hide hf;have HO:=hide ho;obtain⟨fa,fc,hfa⟩:=sliceFacts hf;obtain⟨oa,oc,hoa⟩:=sliceFacts ho;subst hva hfa hoa;clear hv hf ho
 by_cases h0:errW body fs os=0
 ·rw[h0] at HW;have H0:=hide h0;obtain⟨hw0,hf0,ho0⟩:=errW_zero h0;obtain⟨hb5,hba⟩:=body_right hw0;obtain⟨hfl,hfr,_⟩:=set_right hf0;obtain⟨hol,hor,_⟩:=set_right ho0;have HPr:Hid (∀n,Rises (pickB fs at_ os n)):=pick_right hfr hor;have HPl:Hid (∀n,(pickB fs at_ os n).length≤200):=pick_right (P:=fun l=>l.length≤200) hfl hol;have HBa:Hid (∀a∈body,a.terms.length≤4):=fun a ha=>(wrongAtom_zero (hba a ha)).2.1;clear h0 hw0 hf0 ho0 hba hfl hol hfr hor
  go_enter Tryz.func88,Tryz.ntmps88
  go_wp2_with fail
  refine HW.out.mono ?_;rintro e w1 ⟨rfl,hB1⟩;have hBw:Below w.heap.size w w1:=below_trans ((Later.refl w).alloc _).below hB1 (by simp);have hs1:w.heap.size<w1.heap.size:=by have:=hB1.size;simp at this;omega
  have z0:w1.cell? ⟨w.heap.size,0,none⟩=some (.slice a body.length cap):=by rw[hB1.cell (by simp)];simp
  have HSr:=hide (sourceC _ _ fs os at_ w1 (HF.out.below hBw) (HO.out.below hBw));have HBw:=hide hBw;clear HW hB1 hBw
  go_wp2_with fail
  refine HSr.out.mono ?_;rintro e w2 ⟨rfl,hL2,hs2,y0,y1,y2⟩;have hB2:Below w.heap.size w w2:=below_trans HBw.out hL2.below HBw.out.size;obtain⟨w3,hw3⟩:∃w3,w3=w2.alloc (.cells #[.func (.func 217) #[] #[.pointer (some ⟨w1.heap.size+1,0,none⟩),.pointer (some ⟨w1.heap.size+2,0,none⟩),.pointer (some ⟨w1.heap.size,0,none⟩)]] 227):=⟨_,rfl⟩;have hL3:Later w2 w3:=by rw[hw3];exact(Later.refl _).alloc _
  have hB3:Below w.heap.size w w3:=below_trans hB2 hL3.below hB2.size;have hs3:w3.heap.size=w2.heap.size+1:=by rw[hw3];simp
  have x0:w3.cell? ⟨w.heap.size,0,none⟩=some (.slice a body.length cap):=by rw[(hL2.trans hL3).cell (by exact hs1)];exact z0
  have x1:w3.cell? ⟨w2.heap.size,0,none⟩=some (.func (.func 217) #[] #[.pointer (some ⟨w1.heap.size+1,0,none⟩),.pointer (some ⟨w1.heap.size+2,0,none⟩),.pointer (some ⟨w1.heap.size,0,none⟩)]):=by rw[hw3];simp
  have hPk:Picks 217 #[.pointer (some ⟨w1.heap.size+1,0,none⟩),.pointer (some ⟨w1.heap.size+2,0,none⟩),.pointer (some ⟨w1.heap.size,0,none⟩)] (pickB fs at_ os) w3.heap.size w3:=
   source1C w1.heap.size (w1.heap.size+1) (w1.heap.size+2) _ _ fs os at_ _ w3 (HF.out.below hB3) (HO.out.below hB3) (by rw[hL3.cell (by show w1.heap.size<w2.heap.size;omega)];exact y0) (by rw[hL3.cell (by show w1.heap.size+1<w2.heap.size;omega)];exact y1) (by rw[hL3.cell (by show w1.heap.size+2<w2.heap.size;omega)];exact y2) (by omega) (by omega) (by omega) rfl
  have hDl:=with1C w.heap.size w2.heap.size body _ 217 _ enters_source1 (pickB fs at_ os) w3.heap.size w3 (Kind.sl_below HV.out hB3) hPk hb5 HPr.out x0 x1 (by omega) (by omega) rfl;have HMt:=hide (metC body _ 217 _ enters_source1 (pickB fs at_ os) w3 (Kind.sl_below HV.out hB3) hPk hb5 HBa.out HPl.out);have HDl:=hide hDl;have HB3:=hide hB3;have HW3:=hide hw3;have u0:w2.cell? ⟨w.heap.size,0,none⟩=some (.slice a body.length cap):=by rw[hL2.cell (by exact hs1)];exact z0
  have hx0:w.heap.size<w2.heap.size:=by omega
  clear x0 x1;have hAB:allB (pickB fs at_ os) body=match metGo (pickB fs at_ os) 0 body [[]] with|none=>none|some ms=>some (sortBy cmpBs ((ms.filter fun l=> !barredB (pickB fs at_ os) 0 body l).map sortB)):=rfl
  generalize barredB (pickB fs at_ os) 0 body=bp at*;clear HSr hL2 hB2 hL3 hB3 hPk hDl hw3 y0 y1 y2 z0 hs2 hs3 HPr HPl HBa HF HO HBw
  go_wp2_with fail
  rw[←HW3.out];refine HMt.out.mono ?_;rintro e w4 ⟨v4,er,rfl,hMT,hL4⟩;cases hmg:metGo (pickB fs at_ os) 0 body [[]] with
  |none=>
   rw[hmg] at hMT hAB;obtain⟨rfl,rfl⟩:=hMT;dsimp only at hAB;have HAB:=hide hAB;have HL4:=hide hL4;clear hmg hAB HMt hL4;go_wp2
   go_ret2
   refine⟨.slice none 0 0,4,rfl,?_,below_trans HB3.out HL4.out.below HB3.out.size⟩;unfold WithL;rw[if_neg (fun h=>h H0.out),HAB.out];exact⟨rfl,rfl⟩
  |some ms=>
   rw[hmg] at hMT hAB;obtain⟨rfl,ps,hps,hpl,hpq,hLs⟩:=hMT;dsimp only at hAB;have hpl':ps.length≤20000:=by rw[←hps,List.length_map] at hpl;exact hpl
   have hpq':∀q∈ps,q.2.length≤20:=fun q hq=>hpq _ (by rw[←hps];exact List.mem_map.2 ⟨q,hq,rfl⟩);have HDe:=hide (deleteC v4 ps 160 _ enters_with1 bp w3.heap.size w3.heap.size w3 w4 HDl.out hL4.below (Nat.le_refl _) hL4.size hLs hpl' hpq');obtain⟨a4,n4,c4,rfl⟩:∃a n c,v4=.slice a n c:=by obtain⟨a,c,e⟩:=Lists.slice hLs;exact⟨a,_,c,e⟩
   have HLo:Hid (∀k,(Value.slice a4 n4 c4).ownBlock=some k→w3.heap.size≤k):=fun k e=>hLs.lo_le k e;have HAB:=hide hAB;have HL4:=hide hL4;have HPS:=hide hps;have HPL:=hide hpl';have HPQ:=hide hpq';clear hmg hAB HMt hL4 hps hpl hpq hLs hpl' hpq'
   go_wp2_with fail
   refine HDe.out.mono ?_;rintro e w5 ⟨v5,rfl,hLs5,hob,hO5⟩;have hL5:Later w3 w5:=hO5.later HL4.out fun k e=>HLo.out k e;have hkl:(keptL bp ps).length≤20000:=Nat.le_trans (List.length_filter_le _ _) HPL.out;have HRi:=hide (risenC v5 (keptL bp ps) w3.heap.size w3 w5 hL5 (Nat.le_refl _) hLs5 hkl (fun q hq=>HPQ.out q (List.mem_filter.1 hq).1));obtain⟨a5,n5,c5,rfl⟩:∃a n c,v5=.slice a n c:=by obtain⟨a,c,e⟩:=Lists.slice hLs5;exact⟨a,_,c,e⟩
   clear HDe hLs5 hob hO5 hL5 hkl
   go_wp2_with fail
   refine HRi.out.mono ?_;rintro e w6 ⟨rfl,hsl,hL6⟩;have HSL:=hide hsl;have HL6:=hide hL6;clear HRi hsl hL6;go_wp2
   go_ret2
   refine⟨.slice a5 n5 c5,0,rfl,?_,below_trans HB3.out HL6.out.below HB3.out.size⟩;unfold WithL;rw[if_neg (fun h=>h H0.out),HAB.out];have e:(ms.filter fun l=> !bp l).map sortB=(keptL bp ps).map fun q=>sortB q.2:=by
    rw[←HPS.out];unfold keptL;rw[List.filter_map,List.map_map]
    rfl
   rw[e];exact⟨rfl,Kind.sl_mono HSL.out fun k _ hk=>Nat.le_trans HB3.out.size hk⟩
 ·have hq:(errW body fs os != 0)=true:=by simpa using h0
  have H0:=hide h0;generalize her:errW body fs os=er at*;have HER:=hide her;clear h0 HV HF HO her
  go_enter Tryz.func88,Tryz.ntmps88
  go_wp2_with fail
  refine HW.out.mono ?_;rintro e w1 ⟨rfl,hB1⟩;have HB:=hide (below_trans ((Later.refl w).alloc (.cells #[.slice a body.length cap] 73)).below hB1 (by simp));clear HW hB1;go_wp2
  go_ret2
  refine⟨.slice none 0 0,er,rfl,?_,HB.out⟩;unfold WithL;rw[HER.out,if_pos H0.out];exact⟨rfl,rfl⟩
theorem withC (body:List AtomD) (v fv ov:Value) (fs os:List FactD) (at_:Int) (w:World) (hv:atomK.sl Anyw w v body) (hf:Facts w fv fs) (ho:Facts w ov os):
  Calls Tryz.prog 88 #[v,fv,.int .i64 at_,ov] w fun e w'=>∃v' er,e=.returned (.tuple #[v',.int .i64 er])∧WithT w' v' er body fs at_ os∧Below w.heap.size w w':=
 (withL body v fv ov fs os at_ w hv hf ho).mono fun _ _ ⟨v',er,h1,h2,h3⟩=>⟨v',er,h1,h2.any,h3⟩
end Go.Proofs.YtafmbokfkbccaaaGreatDoor
