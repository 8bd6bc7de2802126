import Derived.Test.YtafmbokfkbccaaaGreatDoorJW36
import Derived.Test.YtafmbokfkbccaaaGreatDoorJW33
import Derived.Test.YtafmbokfkbccaaaGreatDoorJW37
import Derived.Test.YtafmbokfkbccaaaGreatDoorJW34
import Derived.Test.YtafmbokfkbccaaaGreatDoorJW8
import Derived.Shelf.LaysM
import Derived.Test.YtafmbokfkbccaaaGreatDoorProg
namespace Go.Proofs.YtafmbokfkbccaaaGreatDoor
open Go.RowKit Go.Sort Go.Maps
theorem zO.below {w w':World} {v:Value} {g:Nat→Int} {n:Nat} (h:zO w v g n) (k:Below w.heap.size w w'):zO w' v g n:=by
 obtain⟨a,c,rfl,h1⟩:=h;refine⟨a,c,rfl,fun hn=> ?_⟩;obtain⟨b,off,rfl,hb,hc⟩:=h1 hn;exact⟨b,off,rfl,Nat.lt_of_lt_of_le hb k.size,fun i hi=>by rw[k.cell (p:=⟨b,off+i,none⟩) hb];exact hc i hi⟩
theorem pQ {P:Program} {w:World} {ops:Array Oper} {rest:List Oper} {o:Oper} {a:Act} {Q:Exit→Act→World→Prop} (hg:o.guard=none) (t:TypeId) (p x:Operand) (hop:o.op=Op.store t p x) (vp vx:Value) (w':World) (hp:a.eval p=vp) (hx:a.eval x=vx) (hrun:(Instr.storeAt t vp vx).run P w=.ok () w')
  (hK:wpList P ops Q rest (a.put o.dst undef) w'):wpList P ops Q (o::rest) a w:=by
 refine wpList_plain hg fun K' hK'=> ?_;unfold Oper.wp;simp[execOp,hop,hp,hx,hrun,Result.andThen];exact hK' _ _ hK
theorem Bn {w:World} {g:Nat} {f f':Nat→Nat→Bool} (h:nO 92 w g f):(Instr.storeAt 92 (.pointer (some ⟨g,0,none⟩)) (.agg (dF f'))).run Tryz.prog w=.ok () (w.setRow g (dF f')):=by
 simp only[Instr.storeAt,Instr.sureAddr,Sem.run_bind,Sem.run_pure,Result.andThen];exact run_storeVar_row _ _ 92 92 _ _ h (by rw[dO];kernel_rfl) (by rw[dO,dO]) (Array.all_eq_true_iff_forall_mem.2 fun v hv=>vg f' v (by simpa using hv))
end Go.Proofs.YtafmbokfkbccaaaGreatDoor
namespace Go.Proofs.YtafmbokfkbccaaaGreatDoor
open Go.RowKit Go.Sort Go.Maps
theorem NG {n:Nat} (h1:1≤n) (h6:n≤6) {g h:Nat→Int} {m j:Nat} (hj:j≤12) {a b:Nat} (ha:a<n) (hb:b<n) (hp:pK n (sO n g h m j) n a b=false):kC chR (eY (tJ n g h m j++xg n)) (wyF (chN a) (chN b))=(6,none):=by
 refine(Gx (g:=g) (h:=h) (m:=m) h1 h6 hj).whyNot (by omega) (by omega) fun hl=> ?_;rw[(uX (n:=n) (f:=sO n g h m j) (fun a b e=>oL h1 e) ha hb).2 hl] at hp;cases hp
theorem Lg {n:Nat} (h1:1≤n) (h6:n≤6) {g h:Nat→Int} {m j:Nat} (hj:j≤12) {a b:Nat} (ha:a<n) (hb:b<n) (hp:pK n (sO n g h m j) n a b=true):∃x l M,kC chR (eY (tJ n g h m j++xg n)) (wyF (chN a) (chN b))=(0,some x)∧dh 61 x=l∧l.length≤n∧lD chR (eY l)=(0,M)∧Up M∧inB M (wyF (chN a) (chN b))=true∧
  uQ chR (eY (tJ n g h m j++xg n)) 60 x=0∧cnt 61 x≤400:=by
 obtain⟨x,l,M,k1,k2,k3,k4,k5,k6⟩:=(Gx (g:=g) (h:=h) (m:=m) h1 h6 hj).Qe (fun a b e=>oL h1 e) (a:=a) (b:=b) (by omega) (by omega) ((uX (n:=n) (f:=sO n g h m j) (fun a b e=>oL h1 e) ha hb).1 hp);obtain⟨_,c1,c2,_⟩:=Bh k1;exact⟨x,l,M,k1,k2 61 (Nat.le_refl _),k3,k4,k5,k6,c1,c2⟩
set_option maxRecDepth 100000 in
set_option maxHeartbeats 8000000 in
theorem Lh (n a b:Int) (fv tv:Value) (g h:Nat→Int) (nf nt:Nat) (w:World) (m:Int) (hm:w.cell? ⟨1,0,none⟩=some (.int .i64 m)) (hF:zO w fv g nf) (hT:zO w tv h nt):
  Calls Tryz.prog 12 #[.int .i64 n,fv,tv,.int .i64 a,.int .i64 b] w fun e w'=>e=.returned (.bool true)∧Below w.heap.size w w':=by
 have HA:=hide (Nq w m hm);have RU:1<w.heap.size:=by
  refine Classical.byContradiction fun h=> ?_;rw[World.cell?,Array.getElem?_eq_none (by simpa using h)] at hm;simp at hm
 have HP:Hid (∀w',Below w.heap.size w w'→Calls Tryz.prog 46 #[.string (bs Cq)] w' fun e w''=>∃v,e=.returned (.tuple #[v,.agg #[.int .i64 0,.int .i64 0]])∧fB.sl bU w'' v chR∧Below w'.heap.size w' w''):=fun w' hb=>by
  refine(Jw (bs Cq) w' m (by rw[hb.cell (p:=⟨1,0,none⟩) RU];exact hm)).mono ?_;rintro e w'' ⟨v,rfl,hV,hB⟩;rw[ig,uW] at hV⊢;exact⟨v,rfl,Kind.dV hV,hB⟩
 clear hm RU;have HF:=hide hF;have HT:=hide hT;obtain⟨fa,fc,rfl,_⟩:=hF;obtain⟨ta,tc,rfl,_⟩:=hT
 go_enter Tryz.func12,Tryz.ntmps12
 go_wp2_with fail
 refine HA.out.mono ?_;rintro e w1 ⟨rfl,hB1⟩;have HB1:=hide hB1;clear HA hB1
 by_cases hn1:n<1
 ·go_wp2;go_ret;exact⟨rfl,HB1.out⟩
 by_cases hn6:6<n
 ·go_wp2;go_ret;exact⟨rfl,HB1.out⟩
 by_cases O9:(12:Int)<(nf:Int)
 ·go_wp2;go_ret;exact⟨rfl,HB1.out⟩
 by_cases ha0:a<0
 ·go_wp2;go_ret;exact⟨rfl,HB1.out⟩
 by_cases hb0:b<0
 ·go_wp2;go_ret;exact⟨rfl,HB1.out⟩
 by_cases han:n≤a
 ·go_wp2;go_ret;exact⟨rfl,HB1.out⟩
 by_cases hbn:n≤b
 ·go_wp2;go_ret;exact⟨rfl,HB1.out⟩
 obtain⟨k,rfl⟩:∃k:Nat,n=(k:Int):=⟨n.toNat,by omega⟩;obtain⟨a,rfl⟩:∃k:Nat,a=(k:Int):=⟨a.toNat,by omega⟩;obtain⟨b,rfl⟩:∃k:Nat,b=(k:Int):=⟨b.toNat,by omega⟩;have hk1:1≤k:=by omega
 have hk6:k≤6:=by omega
 have Ol:nf≤12:=by omega
 have hak:a<k:=by omega
 have hbk:b<k:=by omega
 have HN:=hide (Qg k hk1 hk6 _ _ g h nf nt Ol w1 (HF.out.below HB1.out) (HT.out.below HB1.out));have HY:=hide (Lg (g:=g) (h:=h) (m:=nt) (j:=nf) hk1 hk6 Ol hak hbk);have HO:=hide (NG (g:=g) (h:=h) (m:=nt) (j:=nf) hk1 hk6 Ol hak hbk);obtain⟨F,hFe⟩:∃F,F=pK k (sO k g h nt nf) k:=⟨_,rfl⟩;obtain⟨L,hLe⟩:∃L,L=eY (tJ k g h nt nf++xg k):=⟨_,rfl⟩;have hLl:L.length≤20:=by rw[hLe];exact(Gx (g:=g) (h:=h) (m:=nt) hk1 hk6 Ol).few
 rw[←hFe,←hLe] at HN;rw[←hFe,←hLe] at HY HO;clear hFe hLe HF HT
 go_wp2_with fail
 refine HN.out.mono ?_;rintro e w2 ⟨v2,rfl,hO2,hB2⟩;obtain⟨a2,c2,rfl⟩:=hO2.slice;obtain⟨w3,hw3⟩:∃w3,w3=w2.alloc (.cells (dF noR) 92):=⟨_,rfl⟩;have hr3:nO 92 w3 w2.heap.size noR:=by unfold nO;rw[hw3];exact heap_alloc_new _ _
 have hL3:Later w2 w3:=by rw[hw3];exact(Later.refl _).alloc _
 have hst:=Bn (f':=F) hr3;obtain⟨hr4,hT4⟩:=Gz (cs':=dF F) hr3;have hr4:nO 92 _ w2.heap.size F:=hr4;have hB4:Below w2.heap.size w2 (w3.setRow w2.heap.size (dF F)):=ak hL3.below (hT4.below (Nat.le_refl _) hL3.size) (Nat.le_refl _);have Qi:Below w.heap.size w (w3.setRow w2.heap.size (dF F)):=ak (ak HB1.out hB2 HB1.out.size) hB4 (Nat.le_trans HB1.out.size hB2.size);have hFc:Facts (w3.setRow w2.heap.size (dF F)) (.slice a2 L.length c2) L:=(hO2.facts (by omega)).below hB4;generalize w3.setRow w2.heap.size (dF F)=w4 at*;have HPr:=hide (HP.out w4 Qi);rw[zP] at hw3;have HW3:=hide hw3;have HSt:=hide hst;have HR4:=hide hr4;have HB4:=hide Qi;have HF4:=hide hFc;clear hw3 hr3 hL3 hst hr4 hT4 hB4 Qi hFc hO2 hB2 HN HP HB1
 go_wp2_with (first|(rw[←HW3.out])|(refine pQ rfl 92 (.tmp 12) (.tmp 57) rfl _ _ _ rfl rfl HSt.out ?_)|fail)
 refine HPr.out.mono ?_;rintro e w5 ⟨v5,rfl,hV5,hB5⟩;obtain⟨pa,pc,rfl⟩:=Kind.slice hV5;obtain⟨w6,hw6⟩:∃w6,w6=w5.alloc (.cells #[.int .i64 0,.int .i64 0] 75):=⟨_,rfl⟩;have hL6:Later w5 w6:=by rw[hw6];exact(Later.refl _).alloc _
 have Om:Below w4.heap.size w4 w6:=ak hB5 hL6.below hB5.size;have HP6:=hide (Kind.aH hV5 hL6);have HF6:=hide (HF4.out.below Om);have HR6:Hid (nO 92 w6 w2.heap.size F):=(Om.block _ HR4.out.lt).trans HR4.out;have HB6:Hid (Below w.heap.size w w6):=ak HB4.out Om HB4.out.size;have HWy:=hide (P8 a b (by omega) (by omega) w6);have HW6:=hide hw6;clear hV5 hB5 hw6 hL6 Om HW3 HSt HR4 HB4 HF4 HPr
 go_wp2_with fail
 rw[←HW6.out];refine HWy.out.mono ?_;rintro e w7 ⟨v7,rfl,hF7,hL7⟩;have hF7:bW w7 v7 (wyF (chN a) (chN b)):=hF7;have HPv:=hide (Ng chR L (wyF (chN a) (chN b)) _ _ _ w7 (Kind.aH HP6.out hL7) (HF6.out.later hL7) hF7);have HP7:=hide (Kind.aH HP6.out hL7);have HF7:=hide (HF6.out.later hL7);have HR7:Hid (nO 92 w7 w2.heap.size F):=(hL7.block HR6.out.lt).trans HR6.out;have HB7:=hide (ak HB6.out hL7.below HB6.out.size);clear hF7 hL7 HP6 HF6 HR6 HB6 HWy HW6;have a8:(a:Int)<8:=by omega
 have b8:(b:Int)<8:=by omega
 cases LM:F a b with
 |false=>
  rw[HO.out LM] at HPv;clear HY HO
  go_wp2_with fail
  refine HPv.out.mono ?_;rintro e w8 ⟨v8,rfl,hO8,hB8⟩;obtain rfl:v8=kD:=hO8;have hR8:nO 92 w8 w2.heap.size F:=(hB8.block _ HR7.out.lt).trans HR7.out;obtain⟨w9,hw9⟩:∃w9,w9=w8.alloc (.cells #[.string ByteArray.empty,.slice none 0 0,.int .i64 0,.slice none 0 0] 30):=⟨_,rfl⟩;have hL9:Later w8 w9:=by rw[hw9];exact(Later.refl _).alloc _
  have hR9:nO 92 w9 w2.heap.size F:=(hL9.block hR8.lt).trans hR8;have q:=hR9.cell (a:=a) (c:=b) (by omega) (by omega);rw[LM] at q;have HB9:=hide (ak (ak HB7.out hB8 HB7.out.size) hL9.below (Nat.le_trans HB7.out.size hB8.size));have HW9:=hide hw9;clear hB8 hR8 hw9 hL9 hR9 LM HPv HP7 HF7 HR7 HB7;unfold kD
  go_wp2_with (first|(rw[←HW9.out])|fail)
  go_ret;exact⟨rfl,HB9.out⟩
 |true=>
  obtain⟨x,l,M,k1,k2,k3,k4,k5,k6,k7,k8⟩:=HY.out LM;rw[k1] at HPv;clear HY HO k1
  go_wp2_with fail
  refine HPv.out.mono ?_;rintro e w8 ⟨v8,rfl,hO8,hB8⟩;obtain⟨s8,kv8,rfl,hs8,hk8⟩:=(hO8:sN 60 (From w7.heap.size) w8 v8 x);obtain⟨sa,sc,rfl⟩:=Kind.slice hs8;obtain⟨ka,kc,rfl⟩:=Kind.slice hk8;obtain⟨w9,hw9⟩:∃w9,w9=w8.alloc (.cells #[.string x.fact.1,.slice sa x.fact.2.length sc,.int .i64 x.rule,.slice ka x.kids.length kc] 30):=⟨_,rfl⟩;have hL9:Later w8 w9:=by rw[hw9];exact(Later.refl _).alloc _
  have hr9:w9.heap[w8.heap.size]?=some (.cells #[.string x.fact.1,.slice sa x.fact.2.length sc,.int .i64 x.rule,.slice ka x.kids.length kc] 30 (0,0)):=by rw[hw9];exact heap_alloc_new _ _
  have NH:Below w7.heap.size w7 w9:=ak hB8 hL9.below hB8.size;have hR9:nO 92 w9 w2.heap.size F:=(NH.block _ HR7.out.lt).trans HR7.out;have q:=hR9.cell (a:=a) (c:=b) (by omega) (by omega);rw[LM] at q;have hX9:sN 60 (fun k=>k<w8.heap.size) w9 (.agg #[.string x.fact.1,.slice sa x.fact.2.length sc,.int .i64 x.rule,.slice ka x.kids.length kc]) x:=
   ⟨_,_,rfl,Kind.aT (Kind.aX hs8 fun k hk _=>hk) hL9.size fun k hk _=>hL9.block hk,Kind.aT (Kind.aX hk8 fun k hk _=>hk) hL9.size fun k hk _=>hL9.block hk⟩
  have hLv:=Gw w8.heap.size 60 x _ w9 hX9 hL9.size (by rw[k2];omega);rw[k2] at hLv;have HLv:=hide hLv;have HX9:Hid (sN 60 bU w9 (.agg #[.string x.fact.1,.slice sa x.fact.2.length sc,.int .i64 x.rule,.slice ka x.kids.length kc]) x):=by
   obtain⟨s,kv,e,h1,h2⟩:=hX9;exact⟨s,kv,e,Kind.dV h1,Kind.dV h2⟩
  have HP9:=hide (Kind.aS HP7.out NH);have HF9:=hide (HF7.out.below NH);have HB9:=hide (ak HB7.out NH HB7.out.size);have HW9:=hide hw9;have HR9:=hide hr9;obtain⟨⟨l0,l1,l2,l3⟩,⟨l4,l5,l6⟩,_,_⟩:=iV hr9;have HC8:=hide k8;have HC7:=hide k7;have HMr:=hide k5;have HMi:=hide k6;have HAl:=hide k4;clear hs8 hk8 hB8 hw9 hL9 hr9 NH hR9 hX9 hLv LM k2 k4 k5 k6 k7 k8 HPv HP7 HF7 HR7 HB7;generalize hxf:x.fact.1=xn at*;generalize hxl:x.fact.2.length=xl at*;generalize hxr:x.rule=xr at*;generalize hxk:x.kids.length=xk at*;clear hxf hxl hxr hxk
  go_wp2_with (first|(rw[←HW9.out])|fail)
  refine HLv.out.mono ?_;rintro e w10 ⟨v10,rfl,Oo⟩;obtain⟨a10,c10,rfl⟩:=Oo.slice;have HOf:=hide (ofC _ l w10 (Oo.facts (by omega)));have Qj:=hide Oo.below;clear Oo HLv HW9 q l0 l1 l2 l3 l4 l5 l6
  go_wp2_with fail
  refine HOf.out.mono ?_;rintro e w11 ⟨v11,s,rfl,LK,KW,RV⟩;obtain rfl:s=eY l:=nR LK.1 LK.2.1;have hlen:=mU l;obtain⟨a11,c11,rfl⟩:=KW.slice;have Li:Below w9.heap.size w9 w11:=ak Qj.out RV.below Qj.out.size;have hAl:=rV chR (eY l) _ _ w11 (Kind.aS HP9.out Li) (KW.facts (by omega));rw[HAl.out] at hAl;have HAc:=hide hAl;have Qk:=hide Li;clear LK KW RV Li hAl HAl HOf Qj;generalize(eY l).length=sl at*
  go_wp2_with fail
  refine HAc.out.mono ?_;rintro e w12 ⟨v12,er,rfl,⟨her,_,Ql⟩,RX⟩;dsimp only at her Ql;subst her;have Qm:=Ql rfl;obtain⟨a12,c12,rfl⟩:=aD Qm;have Ee:Below w9.heap.size w9 w12:=ak Qk.out RX Qk.out.size;have RY:Hid (∀w',Below w12.heap.size w12 w'→Calls Tryz.prog 48 #[.int .i64 (a:Nat),.int .i64 (b:Nat)] w' fun e w''=>∃v,e=.returned v∧bW w'' v (wyF (chN a) (chN b))∧Below w12.heap.size w12 w''):=fun w' h=>
   (P8 a b (by omega) (by omega) w').mono fun e w'' ⟨v,he,hF,hL⟩=>⟨v,he,hF,ak h hL.below h.size⟩
  have RZ:Hid (∀w' t,Below w12.heap.size w12 w'→bW w' t (wyF (chN a) (chN b))→Calls Tryz.prog 23 #[.slice a12 M.length c12,t] w' fun e w''=>e=.returned (.bool true)∧Below w12.heap.size w12 w''):=fun w' t h ht=>by
   have hI:=inC _ t M _ w' (Qm.below h) ht HMr.out;rw[tu,HMi.out] at hI;exact hI.mono fun e w'' ⟨he,hL⟩=>⟨he,ak h hL.below h.size⟩
  have R4:Hid (∀w',Below w12.heap.size w12 w'→Calls Tryz.prog 16 #[.slice pa chR.length pc,.slice a2 L.length c2,.agg #[.string xn,.slice sa xl sc,.int .i64 xr,.slice ka xk kc]] w' fun e w''=>e=.returned (.int .i64 0)∧Below w12.heap.size w12 w''):=fun w' h=>by
   have hb:=ak Ee h Ee.size;have hc:=MZ chR L 60 x _ _ _ w' (Kind.aS HP9.out hb) (HF9.out.below hb) (HX9.out.below hb) (by have:=HC8.out;show cnt 61 x≤4000000;omega) (by omega);rw[HC7.out] at hc;exact hc.mono fun e w'' ⟨he,hL⟩=>⟨he,ak h hL h.size⟩
  have R5:Hid (∀w',Below w12.heap.size w12 w'→w'.heap[w8.heap.size]?=some (.cells #[.string xn,.slice sa xl sc,.int .i64 xr,.slice ka xk kc] 30 (0,0))):=fun w' h=>by
   have hb:=ak Ee h Ee.size;exact(hb.block _ (Array.getElem?_eq_some_iff.1 HR9.out).1).trans HR9.out
  have LA:=hide (ak HB9.out Ee HB9.out.size);clear Ql Qm RX Ee HAc Qk HP9 HF9 HX9 HR9 HB9 HC8 HC7 HMr HMi;have hln:((l.length:Nat):Int)≤(k:Int):=by omega
  generalize l.length=ln at*
  go_wp2_with fail
  refine(RY.out _ (Below.refl _ _)).mono ?_;rintro e w13 ⟨v13,rfl,R6,KJ⟩;have R7:=hide (RZ.out w13 v13 KJ R6);clear R6 KJ RZ RY
  go_wp2_with fail
  refine R7.out.mono ?_;rintro e w14 ⟨rfl,KL⟩;have R8:=hide (R4.out w14 KL);obtain⟨⟨l0,l1,l2,l3⟩,⟨l4,l5,l6⟩,_,_⟩:=iV (R5.out w14 KL);clear KL R7 R4 R5
  go_wp2_with fail
  refine R8.out.mono ?_;rintro e w15 ⟨rfl,Jz⟩;have HBe:=hide (ak LA.out Jz LA.out.size);clear Jz R8 LA l0 l1 l2 l3 l4 l5 l6;go_wp2;go_ret;exact⟨rfl,HBe.out⟩
end Go.Proofs.YtafmbokfkbccaaaGreatDoor
namespace Go.Proofs.YtafmbokfkbccaaaGreatDoor
open Go.ChangeShapes Go.WideShapes Go.ChangeAt Go.RowKit Go.Deep
set_option maxRecDepth 100000 in
theorem GA:Tryz.prog.cellsOf 3=1:=by kernel_rfl
set_option maxRecDepth 100000 in
theorem Cv {H:Type} {enc:TypeId×Value→H} {W:World} {b0:Nat} {v:Value} {d:DataW H} {p:List MemPlace} (hval:Value.okWide Tryz.prog W .any b0 39 v) (h0:DataW.Trod enc Tryz.prog W 0 (fun _=>true) true 39 v d p):∃g n,zO W v g n:=by
 obtain⟨a0,Uc,cap0,rfl⟩:=okWide_slice Tryz.underlying39 hval;obtain⟨fuel,hf⟩:=h0;have hf:DataW.trod enc Tryz.prog W 0 (fun _=>true) true fuel 39 [.slice a0 Uc cap0]=some (d,p):=by simpa[Value.cells] using hf
 rcases open_slice Tryz.underlying39 hf with⟨hcs,_⟩|⟨a,len,cap,m,k,D,Pl,hcs,_,hl,hm,hmm,hx,hel⟩
 ·simp only[List.cons.injEq,and_true] at hcs;exact⟨fun _=>0,0,none,0,by rw[hcs],fun h=>by omega⟩
 ·simp only[List.cons.injEq,and_true] at hcs;simp only[if_true] at hmm;subst hmm;rw[GA] at hel;have each:∀i,i<len→∃z:Int,W.cell? (a.add i)=some (.int .i64 z):=fun i hi=>by
   obtain⟨cs',k1,k2⟩:=hel i (by omega);obtain⟨z,hz,_⟩:=DataW.trod_int Tryz.underlying3 k2;rw[Nat.mul_one] at k1;obtain⟨h1,_,hcell⟩:=World.cells?_some k1;have h2:=hcell 0 (by omega);rw[hz] at h2;refine⟨z,?_⟩;have e:(a.add i).add 0=a.add i:=by
    cases a with
    |mk b o x=>cases x <;> simp[Addr.add]
   rw[←e];exact h2
  refine⟨fun i=>if h:i<len then Classical.choose (each i h) else 0,len,some a,m,by rw[hcs],fun hpos=> ?_⟩;have hplain:∃b off,a=⟨b,off,none⟩:=by
   obtain⟨z,hz⟩:=each 0 hpos;exact Ae (W:=W) (by
    have e:a.add 0=a:=by
     cases a with
     |mk b o x=>cases x <;> simp[Addr.add]
    rw[e] at hz;exact hz)
  obtain⟨b,off,rfl⟩:=hplain;refine⟨b,off,rfl,?_,fun i hi=> ?_⟩
  ·obtain⟨z,hz⟩:=each 0 hpos;rw[Addr.add_lit] at hz;exact World.block_lt_of_cell? W _ hz
  ·have h:=Classical.choose_spec (each i hi);have e:(⟨b,off,none⟩:Addr).add i=⟨b,off+i,none⟩:=Addr.add_lit ..;dsimp only;rw[dif_pos hi,←e];exact h
end Go.Proofs.YtafmbokfkbccaaaGreatDoor
namespace Go.Proofs
open Go.Shelf
def Tryz.laysM145_ren:Go.Shelf.Ren:=⟨fun|145=>299|220=>331|219=>344|217=>351|225=>352|224=>353|267=>354|266=>357|314=>358|n=>n,fun|9=>9|4=>4|59=>355|3=>3|5=>5|46=>202|146=>398|51=>343|n=>n,fun|1=>1|n=>n⟩
theorem Tryz.laysM145:Go.Proofs.LaysM.n145 Tryz.prog Tryz.laysM145_ren:={
 mixed:=by kernel_rfl
 f145:=Tryz.func299.trans (congrArg some (by kernel_rfl))
 f217:=Tryz.func351.trans (congrArg some (by kernel_rfl))
 f219:=Tryz.func344.trans (congrArg some (by kernel_rfl))
 f220:=Tryz.func331.trans (congrArg some (by kernel_rfl))
 f224:=Tryz.func353.trans (congrArg some (by kernel_rfl))
 f225:=Tryz.func352.trans (congrArg some (by kernel_rfl))
 f266:=Tryz.func357.trans (congrArg some (by kernel_rfl))
 f267:=Tryz.func354.trans (congrArg some (by kernel_rfl))
 f314:=Tryz.func358.trans (congrArg some (by kernel_rfl))
 t3:=Tryz.underlying3
 a3:=Tryz.isAgg3
 z3:=Tryz.sizeOf3
 v3:=Tryz.zeroValue3
 t4:=Tryz.underlying4
 a4:=Tryz.isAgg4
 z4:=Tryz.sizeOf4
 v4:=Tryz.zeroValue4
 t5:=Tryz.underlying5
 a5:=Tryz.isAgg5
 z5:=Tryz.sizeOf5
 v5:=Tryz.zeroValue5
 t9:=Tryz.underlying9
 a9:=Tryz.isAgg9
 z9:=Tryz.sizeOf9
 v9:=Tryz.zeroValue9
 t46:=Tryz.underlying202
 a46:=Tryz.isAgg202
 z46:=Tryz.sizeOf202
 v46:=Tryz.zeroValue202
 t51:=Tryz.underlying343
 a51:=Tryz.isAgg343
 z51:=Tryz.sizeOf343
 v51:=Tryz.zeroValue343
 t59:=Tryz.underlying355
 a59:=Tryz.isAgg355
 z59:=Tryz.sizeOf355
 v59:=Tryz.zeroValue355
 t146:=Tryz.underlying398
 a146:=Tryz.isAgg398
 z146:=Tryz.sizeOf398
 v146:=Tryz.zeroValue398
 g1:=by kernel_rfl
 i3:=by kernel_rfl
 i4:=by kernel_rfl
 i5:=by kernel_rfl
 i9:=by kernel_rfl
 i46:=by kernel_rfl
 i51:=by kernel_rfl
 i59:=by kernel_rfl
 i146:=by kernel_rfl
 m1:=by kernel_rfl
 s1_3:=fun w h=>Go.Proofs.cell_of_shapedOpen_int (zero:=#[.int .i64 0]) (t:=3) h (of_decide_eq_true (by kernel_rfl)) (by kernel_rfl) rfl (by kernel_rfl) (by kernel_rfl) Tryz.underlying3}
end Go.Proofs
