import Derived.Test.YtafmbokfkbccaaaGreatDoorJD11
import Derived.Test.YtafmbokfkbccaaaGreatDoorJD12
import Derived.Test.YtafmbokfkbccaaaGreatDoorJD6
import Derived.Test.YtafmbokfkbccaaaGreatDoorJD8
import Derived.Test.YtafmbokfkbccaaaGreatDoorJD7
import Derived.Test.YtafmbokfkbccaaaGreatDoorJD5
import Derived.Shelf.SlSortCmp.QuietGrown
import Derived.Deep.RegionWith
import Derived.Laws.EntriesVeiled
namespace Go.Proofs.YtafmbokfkbccaaaGreatDoor
open Go.RowKit Go.Sort Go.Maps
theorem Strs.below {w w':World} {v:Value} {l:List ByteArray} (h:Strs w v l) (k:Below w.heap.size w w'):Strs w' v l:=by
 obtain⟨h0,a,cap,rfl,h1⟩:=h;refine⟨h0,a,cap,rfl,fun hl=> ?_⟩;obtain⟨b,off,rfl,hb,hc⟩:=h1 hl;exact⟨b,off,rfl,Nat.lt_of_lt_of_le hb k.size,fun i hi=>by rw[k.cell (p:=⟨b,off+i,none⟩) hb];exact hc i hi⟩
theorem Facts.below {w w':World} {v:Value} {l:List FactD} (h:Facts w v l) (k:Below w.heap.size w w'):Facts w' v l:=by
 obtain⟨h0,a,cap,rfl,h1⟩:=h;refine⟨h0,a,cap,rfl,fun hl=> ?_⟩;obtain⟨b,off,rfl,hb,hc⟩:=h1 hl;refine⟨b,off,rfl,Nat.lt_of_lt_of_le hb k.size,fun i hi=> ?_⟩;obtain⟨c1,s,c2,c3⟩:=hc i hi;exact⟨by rw[k.cell (p:=⟨b,off+i*2,none⟩) hb];exact c1,s,by rw[k.cell (p:=⟨b,off+i*2+1,none⟩) hb];exact c2,c3.below k⟩
def Picks (g:Nat) (cb:Array Value) (pick:Nat→List FactD) (n:Nat) (w0:World):Prop:=∀(W:World) (k:Nat),Below n w0 W→(k:Int)≤100→
 Calls Tryz.prog g (#[.int .i64 k]++cb) W fun e w'=>∃v,e=.returned v∧Facts w' v (pick k)∧Later W w'
theorem Picks.below {g:Nat} {cb:Array Value} {pick:Nat→List FactD} {n m:Nat} {a b:World} (h:Picks g cb pick n a) (k:Below n a b) (hm:n≤m):Picks g cb pick m b:=fun W i hW hi=>h W i (below_trans k hW hm) hi
theorem enters_source1:∀args w,(callFunc 217 args).run Tryz.prog w=.ok (.enter 217 args) w:=enters_of Tryz.func217 (by kernel_rfl) rfl
set_option maxHeartbeats 400000 in
theorem sourceC (fv ov:Value) (fs os:List FactD) (at_:Int) (w:World) (hf:Facts w fv fs) (ho:Facts w ov os):
  Calls Tryz.prog 157 #[fv,.int .i64 at_,ov] w fun e w'=>e=.returned (.func (.func 217) #[] #[.pointer (some ⟨w.heap.size+1,0,none⟩),.pointer (some ⟨w.heap.size+2,0,none⟩),.pointer (some ⟨w.heap.size,0,none⟩)])∧Later w w'∧w'.heap.size=w.heap.size+3∧
   w'.cell? ⟨w.heap.size,0,none⟩=some fv∧w'.cell? ⟨w.heap.size+1,0,none⟩=some (.int .i64 at_)∧w'.cell? ⟨w.heap.size+2,0,none⟩=some ov:=by
 obtain⟨fa,capf,rfl⟩:=sliceFacts hf;obtain⟨oa,capo,rfl⟩:=sliceFacts ho;clear hf ho
 go_enter Tryz.func157,Tryz.ntmps157
 go_wp2;go_ret;refine⟨rfl,(by repeat (first|exact Later.refl _|assumption|refine Later.drewN ?_ _|refine Later.drew ?_|refine Later.alloc ?_ _|refine Later.grow ?_ _)),by simp,(row1 (t:=24) ?_).1,(row1 (t:=3) ?_).1,(row1 (t:=24) ?_).1⟩
 all_goals
  simp only[heap_at,World.size_alloc]
  repeat (first|rw[if_pos trivial]|rw[if_pos (by omega)]|rw[if_neg (by omega)])
set_option maxHeartbeats 1000000 in
theorem source1C (c0 c1 c2:Nat) (fv ov:Value) (fs os:List FactD) (at_:Int) (n:Nat) (w0:World) (hf:Facts w0 fv fs) (ho:Facts w0 ov os) (h0:w0.cell? ⟨c0,0,none⟩=some fv) (h1:w0.cell? ⟨c1,0,none⟩=some (.int .i64 at_)) (h2:w0.cell? ⟨c2,0,none⟩=some ov) (b0:c0<n) (b1:c1<n) (b2:c2<n) (hn:n=w0.heap.size):
  Picks 217 #[.pointer (some ⟨c1,0,none⟩),.pointer (some ⟨c2,0,none⟩),.pointer (some ⟨c0,0,none⟩)] (pickB fs at_ os) n w0:=by
 intro W k hW hk;have hW':Below w0.heap.size w0 W:=by rw[←hn];exact hW
 have z0:W.cell? ⟨c0,0,none⟩=some fv:=by rw[hW.cell b0];exact h0
 have z1:W.cell? ⟨c1,0,none⟩=some (.int .i64 at_):=by rw[hW.cell b1];exact h1
 have z2:W.cell? ⟨c2,0,none⟩=some ov:=by rw[hW.cell b2];exact h2
 have HF:=hide (hf.below hW');have HO:=hide (ho.below hW');obtain⟨fa,capf,rfl⟩:=sliceFacts hf;obtain⟨oa,capo,rfl⟩:=sliceFacts ho;have s0:c0<W.heap.size:=by have:=hW.size;omega
 have s1:c1<W.heap.size:=by have:=hW.size;omega
 have s2:c2<W.heap.size:=by have:=hW.size;omega
 clear hf ho h0 h1 h2 hW' hW;unfold pickB;show Calls _ _ #[.int .i64 k,.pointer (some ⟨c1,0,none⟩),.pointer (some ⟨c2,0,none⟩),.pointer (some ⟨c0,0,none⟩)] _ _
 by_cases he:(k:Int)=at_
 ·have HE:=hide he;have hq:((k:Int)==at_)=true:=by simpa using he
  have hP:(if(k:Int)=at_ then os else fs)=os:=if_pos he;rw[hP];clear he hP HF
  go_enter Tryz.func217,Tryz.ntmps217
  go_wp2;go_ret;exact⟨_,rfl,HO.out,Later.refl _⟩
 ·have hq:((k:Int)==at_)=false:=by simpa using he
  have hP:(if(k:Int)=at_ then os else fs)=fs:=if_neg he;rw[hP];clear he hP HO
  go_enter Tryz.func217,Tryz.ntmps217
  go_wp2;go_ret;exact⟨_,rfl,HF.out,Later.refl _⟩
theorem meetGo_len:∀(ts:List TermD) (xs:List ByteArray) (l m:List BindD),meetGo l ts xs=some m→m.length≤l.length+ts.length
 |[],_,l,m,h=>by cases h;simp
 |_::_,[],_,_,h=>by cases h
 |t::ts,x::xs,l,m,h=>by
  simp only[meetGo] at h;split at h
  ·have:=meetGo_len ts xs _ m h;simp at this⊢;omega
  ·split at h
   ·have:=meetGo_len ts xs _ m h;simp;omega
   ·cases h
theorem meetAllB_len {a:AtomD} {fs:List FactB} {ls:List (List BindD)} {n:Nat} (h:∀l∈ls,l.length≤n):∀m∈meetAllB a fs ls,m.length≤n+a.terms.length:=fun m hm=>by
 obtain⟨l,hl,f,_,hf⟩:=mem_meetAllB.1 hm;have h1:=h l hl;unfold meetB at hf;split at hf
 ·have:=meetGo_len _ _ _ _ hf;omega
 ·cases hf
theorem metGo_step {pick:Nat→List FactB} {body:List AtomD} {j:Nat} {a:AtomD} (h:body[j]?=some a) (ls:List (List BindD)):metGo pick j (body.drop j) ls=if a.no then metGo pick (j+1) (body.drop (j+1)) ls else if 20000<(meetAllB a (pick j) ls).length then none else metGo pick (j+1) (body.drop (j+1)) (meetAllB a (pick j) ls):=by
 obtain⟨h1,e1⟩:=List.getElem?_eq_some_iff.1 h;rw[List.drop_eq_getElem_cons h1,e1];rfl
def MetT (w0 w:World) (v:Value) (e:Int) (r:Option (List (List BindD))):Prop:=match r with
 |none=>v=.slice none 0 0∧e=4
 |some ms=>e=0∧∃ps,ps.map (·.2)=ms∧ms.length≤20000∧(∀m∈ms,m.length≤20)∧Lists 158 190 w0.heap.size w v ps
theorem lists_one (lo:Nat) (w:World) (hlo:lo≤w.heap.size):Lists 158 190 lo (w.alloc (.cells #[.slice none 0 0] 158)) (.slice (some ⟨w.heap.size,0,none⟩) 1 1) [(.slice none 0 0,[])]:=by
 refine⟨⟨rfl,Or.inr ⟨w.heap.size,1,#[.slice none 0 0],rfl,hlo,heap_alloc_new _ _,by simp,by simp[maxLen],rfl,rfl⟩⟩,fun p hp=> ?_,List.pairwise_singleton _ _⟩;simp at hp;subst hp;exact⟨bindK.own_nil _ _ _,fun k e=>by simp[Value.ownBlock] at e⟩
set_option maxRecDepth 100000 in
set_option maxHeartbeats 4000000 in
theorem metC (body:List AtomD) (v:Value) (g:Nat) (cb:Array Value) (eg:∀args w,(callFunc g args).run Tryz.prog w=.ok (.enter g args) w) (pick:Nat→List FactD) (w:World) (hv:atomK.sl Anyw w v body) (hp:Picks g cb pick w.heap.size w) (hb:body.length≤5) (ha:∀a∈body,a.terms.length≤4) (hfs:∀n,(pick n).length≤200):
  Calls Tryz.prog 158 #[v,.func (.func g) #[] cb] w fun e w'=>∃v' er,e=.returned (.tuple #[v',.int .i64 er])∧MetT w w' v' er (metGo pick 0 body [[]])∧Later w w':=by
 obtain⟨sa,cap,rfl⟩:=Kind.slice hv;have HV:=hide hv;have HP:=hide hp;have HA:=hide ha;have HFS:=hide hfs;clear hv hp ha hfs;generalize hR:metGo pick 0 body [[]]=R at*;have H0:Hid (R=metGo pick 0 (body.drop 0) [[]]):=hR.symm;clear hR
 go_enter Tryz.func158,Tryz.ntmps158
 go_wp2
 go_loopg [6,13] body.length (fun gg o i wr=>∃j:Nat,j+gg=body.length∧i=.int .i64 j∧∃ps,Hid (R=metGo pick j (body.drop j) (ps.map (·.2)))∧Hid (Lists 158 190 w.heap.size wr o ps)∧Hid (ps.length≤20000)∧Hid (∀p∈ps,p.2.length≤4*j)∧Hid (Later w wr))
 case atStart=>
  exact⟨0,by omega,rfl,[(.slice none 0 0,[])],H0,lists_one _ _ (Nat.le_refl _),(by simp:_≤_),(fun p hp=>by simp at hp;subst hp;simp),((by repeat (first|exact Later.refl _|assumption|refine Later.drewN ?_ _|refine Later.drew ?_|refine Later.alloc ?_ _|refine Later.grow ?_ _)):Later _ _)⟩
 case round=>
  obtain⟨j,hj,rfl,ps,HE,HO,HN,HQ,HL⟩:=hrel;have hn:=HN.out;obtain⟨ao,no',co,rfl⟩:∃a n c,u6=.slice a n c:=by obtain⟨a,c,e⟩:=Lists.slice HO.out;exact⟨a,_,c,e⟩
  by_cases hlt:j<body.length
  ·obtain⟨a,hx⟩:∃x,body[j]?=some x:=⟨_,List.getElem?_eq_getElem hlt⟩;obtain⟨b1,o1,_,rfl,hb1,⟨sv,rfl,hsv⟩,hc⟩:=Kind.sl_at HV.out hx;have d0:wr.cell? ⟨b1,o1+j*3,none⟩=some (.bool a.no):=by rw[HL.out.cell hb1];exact hc 0 _ rfl
   have d1:wr.cell? ⟨b1,o1+j*3+1,none⟩=some (.string (bs a.name)):=by rw[HL.out.cell hb1];exact hc 1 _ rfl
   have d2:wr.cell? ⟨b1,o1+j*3+2,none⟩=some sv:=by rw[HL.out.cell hb1];exact hc 2 _ rfl
   have hbr:b1<wr.heap.size:=Nat.lt_of_lt_of_le hb1 HL.out.size;have hat:=HA.out a (List.mem_of_getElem? hx);have HS:=hide (metGo_step (pick:=pick) hx (ps.map (·.2)));obtain⟨sva,svc,rfl⟩:=Kind.slice hsv;have HSV:=hide hsv;clear hc hx hsv;cases hno:a.no
   ·have HS1:Hid (R=if 20000<(meetAllB a (pick j) (ps.map (·.2))).length then none else metGo pick (j+1) (body.drop (j+1)) (meetAllB a (pick j) (ps.map (·.2)))):=by
     show _=_;rw[HE.out,HS.out,hno];rfl
    rw[hno] at d0;obtain⟨wb,hwb⟩:∃wb,wb=wr.alloc (.cells #[.bool false,.string (bs a.name),.slice sva a.terms.length svc] 85):=⟨_,rfl⟩;have hLb:Later w wb:=by rw[hwb];exact HL.out.alloc _
    have hLr:Later wr wb:=by rw[hwb];exact(Later.refl _).alloc _
    have z:wb.cell? ⟨wr.heap.size,0,none⟩=some (.bool false)∧wb.cell? ⟨wr.heap.size,1,none⟩=some (.string (bs a.name))∧wb.cell? ⟨wr.heap.size,2,none⟩=some (.slice sva a.terms.length svc):=by rw[hwb];simp
    have hsb:wr.heap.size<wb.heap.size:=by rw[hwb];simp
    have CELL:Hid (∀w',Later wb w'→w'.cell? ⟨wr.heap.size,0,none⟩=some (.bool false)∧w'.cell? ⟨wr.heap.size,1,none⟩=some (.string (bs a.name))∧w'.cell? ⟨wr.heap.size,2,none⟩=some (.slice sva a.terms.length svc)):=fun w' hL=>
     ⟨by rw[hL.cell hsb];exact z.1,by rw[hL.cell hsb];exact z.2.1,by rw[hL.cell hsb];exact z.2.2⟩
    have HFr:Hid (∀w',Later wb w'→Calls Tryz.prog g (#[.int .i64 j]++cb) w' fun e w2=>∃v,e=.returned v∧Facts w2 v (pick j)∧Later w' w2):=fun w' hL=>
     HP.out w' j (hLb.trans hL).below (by omega)
    have HMA:Hid (∀w' fv,Later wb w'→Facts w' fv (pick j)→Calls Tryz.prog 218 #[.agg #[.bool false,.string (bs a.name),.slice sva a.terms.length svc],fv,.slice ao no' co] w' fun e w2=>∃v' er,e=.returned (.tuple #[v',.int .i64 er])∧Hid (er=if 20000<(meetAllB a (pick j) (ps.map (·.2))).length then 4 else 0)∧Hid (MetAll w' w2 v' (meetAllB a (pick j) (ps.map (·.2))))∧Later w' w2):=fun w' fv hL hf=>by
     have h1:=meetAllC a _ fv (.slice ao no' co) (pick j) (ps.map (·.2)) w' (Kind.sl_later HSV.out (hLb.trans hL)) hf (Kind.sl_any ((HO.out.later (hLr.trans hL)).sl (by omega) (fun p hp=>by have:=HQ.out p hp;omega))) (HFS.out j) (by simpa using hn) hat (fun l hl=>by
      obtain⟨p,hp,rfl⟩:=List.mem_map.1 hl;have:=HQ.out p hp;omega)
     rw[hno] at h1;exact h1.mono fun e w2 ⟨v',he,hm,hl⟩=>⟨v',_,he,(rfl:_=_),hm,hl⟩
    have HWB:=hide hwb;have HQ1:Hid (∀m∈meetAllB a (pick j) (ps.map (·.2)),m.length≤4*(j+1)):=fun m hm=>by
     have:=meetAllB_len (a:=a) (fs:=pick j) (ls:=ps.map (·.2)) (n:=4*j) (fun l hl=>by
      obtain⟨p,hp,rfl⟩:=List.mem_map.1 hl;exact HQ.out p hp) m hm
     omega
    clear hwb z hsb HE HS HSV hno;generalize meetAllB a (pick j) (ps.map (·.2))=MA at*;generalize bs a.name=nm at*;go_wp2;rw[←HWB.out];refine wp_region_held_drew (S:=fun w'=>Later wb w') (by kernel_rfl) (Later.refl _).drew (fun hHeld=> ?_);refine take_yes (i:=0) (d:=some 21) (v:= ?_) rfl rfl hHeld ?_ ?_;rotate_left;focus intro w hSw;(try dsimp only at hSw);obtain⟨q0,q1,q2⟩:=CELL.out w hSw;go_simp;try with_reducible rfl
    simp only[aput,aset,aze,asu];refine take_yes (i:=1) (d:=some 22) (v:= ?_) rfl rfl hHeld ?_ ?_;rotate_left;focus intro w hSw;(try dsimp only at hSw);go_simp;try with_reducible rfl
    simp only[aput,aset,aze,asu];refine take_yes (i:=2) (d:=some 23) (v:= ?_) rfl rfl hHeld ?_ ?_;rotate_left;focus intro w hSw;(try dsimp only at hSw);go_simp;try with_reducible rfl
    simp only[aput,aset,aze,asu];refine take_yes (i:=4) (d:=some 25) (v:= ?_) rfl rfl hHeld ?_ ?_;rotate_left;focus intro w hSw;(try dsimp only at hSw);go_simp;try with_reducible rfl
    simp only[aput,aset,aze,asu];refine wpAnyH_ready (rs:=[3]) (by kernel_rfl) (by simp) ?_;refine AllReadyH.cons rfl (fun K hK=> ?_) AllReadyH.nil;go_simp;refine(HFr.out _ hHeld).mono ?_;rintro e u1 ⟨fv,rfl,hfv,hU1⟩;dsimp only;have hU1':Later wb u1:=Later.trans hHeld hU1;refine hK.out _ _ hU1' (fun hHeld=> ?_);clear hK K;refine wpAnyH_ready (rs:=[5]) (by kernel_rfl) (by simp) ?_;refine AllReadyH.cons rfl (fun K hK=> ?_) AllReadyH.nil;go_simp;refine(HMA.out _ fv hU1' hfv).mono ?_;rintro e u2 ⟨v',er,rfl,HER,HMT,hU2⟩;dsimp only;have hU2':Later wb u2:=hU1'.trans hU2;refine hK.out _ _ hU2' (fun hHeld=> ?_);clear hK K;refine take_yes (i:=6) (d:=some 20) (v:= ?_) rfl rfl hHeld ?_ ?_;rotate_left;focus intro w hSw;(try dsimp only at hSw);go_simp;try with_reducible rfl
    simp only[aput,aset,aze,asu];refine take_yes (i:=7) (d:=some 27) (v:= ?_) rfl rfl hHeld ?_ ?_;rotate_left;focus intro w hSw;(try dsimp only at hSw);go_simp;try with_reducible rfl
    simp only[aput,aset,aze,asu];refine take_yes (i:=8) (d:=some 28) (v:= ?_) rfl rfl hHeld ?_ ?_;rotate_left;focus intro w hSw;(try dsimp only at hSw);go_simp;try with_reducible rfl
    simp only[aput,aset,aze,asu];refine take_yes (i:=9) (d:=some 6) (v:= ?_) rfl rfl hHeld ?_ ?_;rotate_left;focus intro w hSw;(try dsimp only at hSw);go_simp;try with_reducible rfl
    simp only[aput,aset,aze,asu];refine take_yes (i:=10) (d:=some 9) (v:= ?_) rfl rfl hHeld ?_ ?_;rotate_left;focus intro w hSw;(try dsimp only at hSw);go_simp;try with_reducible rfl
    simp only[aput,aset,aze,asu];refine wpAnyH_done (by kernel_rfl) ?_ _;have hLu:Later w u2:=hLb.trans hU2';have hsu:w.heap.size≤u1.heap.size:=(hLb.trans hU1').size
    by_cases hbig:20000<MA.length
    ·have HR:Hid (R=none):=by show _=_;rw[HS1.out,if_pos hbig]
     have he:er=4:=by rw[HER.out,if_pos hbig]
     subst he;clear hbig HER HMT HS1;go_wp2
     go_ret2
     exact⟨_,_,rfl,by rw[HR.out];exact⟨rfl,rfl⟩,hLu⟩
    ·have HR:Hid (R=metGo pick (j+1) (body.drop (j+1)) MA):=by show _=_;rw[HS1.out,if_neg hbig]
     have he:er=0:=by rw[HER.out,if_neg hbig]
     subst he;have hmt:=HMT.out;unfold MetAll at hmt;rw[if_neg hbig] at hmt;obtain⟨ps',hps',hLs⟩:=hmt;have HR2:Hid (R=metGo pick (j+1) (body.drop (j+1)) (ps'.map (·.2))):=by show _=_;rw[hps'];exact HR.out
     have HN2:Hid (ps'.length≤20000):=by show _≤_;rw[←hps',List.length_map] at hbig;omega
     have HQ2:Hid (∀p∈ps',p.2.length≤4*(j+1)):=fun p hp=>HQ1.out _ (by rw[←hps'];exact List.mem_map.2 ⟨p,hp,rfl⟩);have HO2:=hide (hLs.base hsu);obtain⟨a4,n4,c4,rfl⟩:∃a n c,v'=.slice a n c:=by obtain⟨a,c,e⟩:=Lists.slice hLs;exact⟨a,_,c,e⟩
     clear hbig HER HMT HS1 hps' hLs HR;go_wp2
     go_roundg (body.length- (j+1))
     case measure=>omega
     case rel=>exact⟨j+1,by omega,by go_num,ps',HR2,HO2,HN2,HQ2,hLu⟩
   ·have HS1:Hid (R=metGo pick (j+1) (body.drop (j+1)) (ps.map (·.2))):=by
     show _=_;rw[HE.out,HS.out,hno];rfl
    rw[hno] at d0;clear HE HS hno;generalize bs a.name=nm at*;go_wp2
    go_roundg (body.length- (j+1))
    case measure=>omega
    case rel=>exact⟨j+1,by omega,by go_num,ps,HS1,HO.out.later ((Later.refl _).alloc _),HN,(fun p hp=>by have:=HQ.out p hp;omega),HL.out.alloc _⟩
  ·have e:j=body.length:=by omega
   have HR:Hid (R=some (ps.map (·.2))):=by show _=_;rw[HE.out,List.drop_eq_nil_of_le (by omega)];rfl
   clear HE;go_wp2
   go_ret2
   refine⟨_,_,rfl,?_,HL.out⟩;rw[HR.out];exact⟨rfl,ps,rfl,by simpa using hn,fun m hm=>by
    obtain⟨p,hp,rfl⟩:=List.mem_map.1 hm;have:=HQ.out p hp;omega,HO.out⟩
end Go.Proofs.YtafmbokfkbccaaaGreatDoor
namespace Go.Proofs.YtafmbokfkbccaaaGreatDoor
open Go.RowKit Go.Sort Go.Maps
theorem cell_not_map {w:World} {b:Nat} {es:Array MapEntry} {c:Nat} {x:Addr} {v:Value} (hb:w.heap[b]?=some (.map es c)) (hx:w.cell? x=some v):x.block≠b:=by
 intro e;subst e;simp[World.cell?,hb] at hx
theorem known_map {P:Program} {K:TypeId} {w:World} {b n:Nat} {L:List FactB} (h:KnownM P K w b n L):∃es c,w.heap[b]?=some (.map es c):=by
 obtain⟨D,⟨es,c,hb,_⟩,_⟩:=h;exact⟨es,c,hb⟩
theorem strs_tn {w w':World} {b:Nat} {v:Value} {l:List ByteArray} (h:Strs w v l) (hb:∃es c,w.heap[b]?=some (.map es c)) (k:Tn b w w'):Strs w' v l:=by
 obtain⟨es,c,hb⟩:=hb;obtain⟨h0,a,cap,rfl,h1⟩:=h;refine⟨h0,a,cap,rfl,fun hl=> ?_⟩;obtain⟨b1,off,rfl,hlt,hc⟩:=h1 hl;refine⟨b1,off,rfl,Nat.lt_of_lt_of_le hlt k.size,fun i hi=> ?_⟩;rw[k.cell (x:=⟨b1,off+i,none⟩) hlt (cell_not_map hb (hc i hi))];exact hc i hi
theorem factV_tn {w w':World} {b:Nat} {v:Value} {f:FactD} (h:FactV w v f) (hb:∃es c,w.heap[b]?=some (.map es c)) (k:Tn b w w'):FactV w' v f:=by
 obtain⟨s,rfl,h1⟩:=h;exact⟨s,rfl,strs_tn h1 hb k⟩
theorem facts_tn {w w':World} {b:Nat} {v:Value} {l:List FactD} (h:Facts w v l) (hb:∃es c,w.heap[b]?=some (.map es c)) (k:Tn b w w'):Facts w' v l:=by
 obtain⟨h0,a,cap,rfl,h1⟩:=h;refine⟨h0,a,cap,rfl,fun hl=> ?_⟩;obtain⟨b1,off,rfl,hlt,hc⟩:=h1 hl;refine⟨b1,off,rfl,Nat.lt_of_lt_of_le hlt k.size,fun i hi=> ?_⟩;obtain⟨c1,s,c2,c3⟩:=hc i hi;obtain⟨es,c,hb'⟩:=hb;exact⟨by rw[k.cell (x:=⟨b1,off+i*2,none⟩) hlt (cell_not_map hb' c1)];exact c1,s,by rw[k.cell (x:=⟨b1,off+i*2+1,none⟩) hlt (cell_not_map hb' c2)];exact c2,strs_tn c3 ⟨es,c,hb'⟩ k⟩
theorem tn_of_grown {b:Nat} {w w':World} (h:w.grownBy w' (some b)):Tn b w w':=⟨h.os,h.tape,h.output,h.size,fun k hk hb=>h.block k hk (fun e=>hb (by cases e;rfl))⟩
abbrev KnN (w:World) (b n:Nat) (L:List FactB):Prop:=KnownM Tryz.prog 9 w b n L
set_option maxHeartbeats 2000000 in
theorem knownAdd (b n:Nat) (L:List FactB) (v:Value) (l:List FactB) (w:World) (hK:KnN w b n L) (hv:Facts w v l) (hs:∀f∈l,ShortF f) (hn:n+l.length<1000000):
  Calls Tryz.prog 91 #[.map (some b),v] w fun e w'=>(∃u,e=.returned u)∧KnN w' b (n+l.length) (L++l)∧Tn b w w':=by
 obtain⟨a,cap,rfl,hl,hz⟩:=hv.addr;have hM:=known_map hK;have HM:=hide hM;have HV:=hide hv;have HS:=hide hs;have HK:Hid (KnN w b (n+0) (L++l.take 0)):=by show KnN _ _ _ _;simpa using hK
 clear hv hs hK hM
 go_enter Tryz.func91,Tryz.ntmps91
 go_wp2
 go_loopg [8] l.length (fun k i wr=>∃j:Nat,j+k=l.length∧i=.int .i64 j∧Hid (KnN wr b (n+j) (L++l.take j))∧Hid (Tn b w wr))
 case atStart=>exact⟨0,by omega,rfl,HK,Tn.refl _ _⟩
 case round=>
  clear HK;obtain⟨j,hj,rfl,HK,HT⟩:=hrel
  by_cases hlt:j<l.length
  ·rcases hz with rfl|⟨b1,off,rfl⟩
   ·simp at hlt
   have hltz:(j:Int)<(l.length:Int):=by omega
   have hFr:=facts_tn HV.out HM.out HT.out;obtain⟨hb,ax,lx,cx,g1,g2,fx⟩:=hFr.at hlt;have hfm:l.getD j noFact∈l:=by rw[List.getD_eq_getElem?_getD,List.getElem?_eq_getElem hlt];exact List.getElem_mem hlt
   have htk:l.take (j+1)=l.take j++[l.getD j noFact]:=by rw[List.take_add_one,List.getD_eq_getElem?_getD,List.getElem?_eq_getElem hlt];rfl
   have hsh:=HS.out _ hfm;obtain⟨wb,hwb⟩:∃wb,wb=wr.alloc (.cells #[.string (l.getD j noFact).1,.slice ax lx cx] 27):=⟨_,rfl⟩;have hLb:Later wr wb:=by rw[hwb];exact(Later.refl _).alloc _
   have hrb:wb.heap[wr.heap.size]?=some (.cells #[.string (l.getD j noFact).1,.slice ax lx cx] 27 (0,0)):=by rw[hwb];exact heap_alloc_new wr _
   have hfb:=fx.later hLb;have hKb:=HK.out.later hLb;have HC:Hid (∀w',Below wb.heap.size wb w'→Calls Tryz.prog 166 #[.agg #[.string (l.getD j noFact).1,.slice ax lx cx]] w' fun e w''=>e=.returned (.string (bs (keyF (l.getD j noFact))))∧Hid (Below wb.heap.size wb w'')):=fun w' hw=>
    (apartC _ _ w' (factV_below hfb hw) hsh).mono fun e w'' ⟨he,h2⟩=>⟨he,below_trans hw h2 hw.size⟩
   have hcell:∀w',Below wb.heap.size wb w'→w'.cell? ⟨wr.heap.size,0,none⟩=some (.string (l.getD j noFact).1)∧w'.cell? ⟨wr.heap.size,0+1,none⟩=some (.slice ax lx cx):=fun w' hw=>by
    have hlt':wr.heap.size<wb.heap.size:=(Array.getElem?_eq_some_iff.1 hrb).1
    constructor
    ·rw[hw.cell (p:=⟨wr.heap.size,0,none⟩) hlt',cell_of_row _ _ _ _ _ _ hrb];rfl
    ·rw[hw.cell (p:=⟨wr.heap.size,0+1,none⟩) hlt',cell_of_row _ _ _ _ _ _ hrb];rfl
   have HU:Hid (∀w',Below wb.heap.size wb w'→∃w'',(Instr.mapUpdate 160 (.map (some b)) (.string (bs (keyF (l.getD j noFact)))) (.agg #[.string (l.getD j noFact).1,.slice ax lx cx])).run Tryz.prog w'=.ok () w''∧KnN w'' b (n+(j+1)) (L++l.take (j+1))∧Tn b w w''∧w''.cell? ⟨wr.heap.size,0,none⟩=some (.string (l.getD j noFact).1)∧w''.cell? ⟨wr.heap.size,0+1,none⟩=some (.slice ax lx cx)):=fun w' hw=>by
    have hK':KnN w' b (n+j) (L++l.take j):=hKb.below hw;have hf':=factV_below hfb hw;have hkl:=keyF_len hsh;obtain⟨w'',hrun,hg,hkn⟩:=hK'.store Tryz.underlying9 Tryz.underlying160 (by unfold maxLen;omega) hf' (by unfold maxLen;omega);refine⟨w'',hrun,?_,?_,?_⟩
    ·rw[htk,←List.append_assoc,show n+(j+1)=n+j+1 by omega];exact hkn fun g _ u hu=>factV_tn hu (known_map hK') (tn_of_grown hg)
    ·exact((HT.out.trans (Tn.of_below hLb.below)).trans (Tn.of_below hw)).trans (tn_of_grown hg)
    ·have hblt:b<wr.heap.size:=HK.out.lt;have hlt':wr.heap.size<w'.heap.size:=Nat.lt_of_lt_of_le (Array.getElem?_eq_some_iff.1 hrb).1 hw.size;obtain⟨q0,q1⟩:=hcell w' hw;exact⟨by rw[(tn_of_grown hg).cell (x:=⟨wr.heap.size,0,none⟩) hlt' (by show wr.heap.size≠b;omega)];exact q0,by rw[(tn_of_grown hg).cell (x:=⟨wr.heap.size,0+1,none⟩) hlt' (by show wr.heap.size≠b;omega)];exact q1⟩
   have HCell:=hide hcell;generalize bs (keyF (l.getD j noFact))=kb at*;generalize(l.getD j noFact).1=nk at*;clear hcell htk hsh hfm hrb hfb hKb hFr fx hLb;go_wp2;rw[←hwb];clear hwb;refine wp_region_held_drew (S:=fun w'=>w'.cell? ⟨wr.heap.size,0,none⟩=some (.string nk)∧w'.cell? ⟨wr.heap.size,0+1,none⟩=some (.slice ax lx cx)) (by kernel_rfl) (HCell.out _ (Below.refl _ _).drew) (fun hHeld=> ?_);refine take_yes (i:=0) (d:=some 12) (v:= ?_) rfl rfl hHeld ?_ ?_;rotate_left;focus intro w hSw;(try dsimp only at hSw);go_simp;try with_reducible rfl
   simp only[aput,aset,aze,asu];refine take_yes (i:=1) (d:=some 13) (v:= ?_) rfl rfl hHeld ?_ ?_;rotate_left;focus intro w hSw;(try dsimp only at hSw);obtain⟨q0,q1⟩:=hSw;go_simp;try with_reducible rfl
   simp only[aput,aset,aze,asu];refine take_yes (i:=3) (d:=some 15) (v:= ?_) rfl rfl hHeld ?_ ?_;rotate_left;focus intro w hSw;(try dsimp only at hSw);obtain⟨q0,q1⟩:=hSw;go_simp;try with_reducible rfl
   simp only[aput,aset,aze,asu];refine wpAnyH_ready (rs:=[2]) (by kernel_rfl) (by simp) ?_;refine AllReadyH.cons rfl (fun K hK=> ?_) AllReadyH.nil;go_simp;refine(HC.out _ (Below.refl _ _).drew).mono ?_;rintro e w5 ⟨rfl,hB5⟩;dsimp only;refine hK.out _ _ (HCell.out _ hB5.out) (fun hHeld=> ?_);clear hK K;refine wpAnyH_ready (rs:=[4]) (by kernel_rfl) (by simp) ?_;obtain⟨w6,hrun,hK6,hT6,hc6⟩:=HU.out _ hB5.out;have HK6:=hide hK6;have HT6:=hide hT6;clear hK6 hT6;refine AllReadyH.cons rfl (fun K hK=> ?_) AllReadyH.nil;go_simp;refine hK.out _ _ hc6 (fun hHeld=> ?_);clear hK K;refine wpAnyH_done (by kernel_rfl) ?_ _;clear hc6 hHeld hrun;go_wp2
   go_roundg (l.length- (j+1))
   case measure=>omega
   case rel=>exact⟨j+1,by omega,by go_num,HK6,HT6⟩
  ·have hj':j=l.length:=by omega
   subst hj';rw[List.take_length] at HK;go_wp2;go_end0;exact⟨⟨_,rfl⟩,HK.out,HT.out⟩
set_option maxHeartbeats 1000000 in
theorem knownSet (b n:Nat) (L:List FactB) (w:World) (hK:KnN w b n L) (hn:n≤1000000):
  Calls Tryz.prog 92 #[.map (some b)] w fun e w'=>∃v',e=.returned v'∧Facts w' v' (setF L)∧Below w.heap.size w w':=by
 obtain⟨D,hown,h1,h2,h3⟩:=hK;have hsz:Maps.size D≤3518437208883:=by have:=hown.size_le;omega
 have hL1:Later w (w.alloc (.cells #[.map (some b)] 160)):=(Later.refl w).alloc _;have hr1:(w.alloc (.cells #[.map (some b)] 160)).heap[w.heap.size]?=some (.cells #[.map (some b)] 160 (0,0)):=heap_alloc_new w _;have HV:=hide (valuesC (some b) w);have HC:=hide (collectC b n w.heap.size D (w.alloc (.cells #[.map (some b)] 160)) (by simp) (by rw[cell_of_row _ _ _ _ _ _ hr1];rfl) (owns_block hown (hL1.block hown.lt)) hsz);have H1:=hide h1;have H2:Hid (∀f∈L,∃x,D.atKey (.string (keyF f)) .nil=.held x∧FactV (w.alloc (.cells #[.map (some b)] 160)) (encT x) f):=fun f hf=>by
  obtain⟨x,e,hx⟩:=h2 f hf;exact⟨x,e,hx.later hL1⟩
 have HL1:=hide hL1.below;clear h1 h2 h3 hown hL1 hr1
 go_enter Tryz.func92,Tryz.ntmps92
 go_wp2_with fail
 refine HV.out.mono ?_;rintro e w1 ⟨rfl,rfl⟩;clear HV
 go_wp2_with fail
 refine HC.out.mono ?_;rintro e w2 ⟨v,xs,rfl,⟨ps,hA,rfl⟩,hr,hB⟩;obtain⟨l,hl,hF⟩:=known_facts H1.out H2.out hsz hA hr hB;have HO:=hide (ofC v l w2 hF);have HB:Hid (Below w.heap.size w w2):=below_trans HL1.out hB (by simp);have HLL:=hide hl;have hl0:=hF.1;obtain⟨a,cap,rfl⟩:=sliceFacts hF;clear hA hr hB hl hF HC H1 H2 HL1
 go_wp2_with fail
 refine HO.out.mono ?_;rintro e w3 ⟨v',s,rfl,hS,hOw,hL3⟩;have es:s=setF L:=setF_of hS.1 fun f=>by rw[hS.2.1 f,HLL.out f]
 have HF:Hid (Facts w3 v' (setF L)):=by rw[←es];exact hOw.facts (Nat.le_trans hS.2.2 hl0)
 have HB3:Hid (Below w.heap.size w w3):=below_trans HB.out hL3.below HB.out.size;clear hS hOw hL3 es;go_wp2;go_ret;exact⟨v',rfl,HF.out,HB3.out⟩
end Go.Proofs.YtafmbokfkbccaaaGreatDoor
namespace Go.Proofs.YtafmbokfkbccaaaGreatDoor
open Go.RowKit Go.Sort
theorem mixed:Tryz.prog.follows .mixedOrders=true:=by kernel_rfl
theorem Facts.grown {w:World} {b off n cap:Nat} {l:List FactD} (h:Facts w (.slice (some ⟨b,off,none⟩) n cap) l) {k:Nat} (hk:k<l.length):
  ∃a len c,(∀q os,(grow (w.drewN q) os).cell? ⟨b,off+k*2,none⟩=some (.string (l.getD k noFact).1))∧(∀q os,(grow (w.drewN q) os).cell? ⟨b,off+k*2+1,none⟩=some (.slice a len c))∧FactV w (.agg #[.string (l.getD k noFact).1,.slice a len c]) (l.getD k noFact):=by
 obtain⟨hb,a,len,c,g1,g2,hf⟩:=h.at hk;exact⟨a,len,c,fun q os=>by rw[Later.cell ⟨q,os,rfl⟩ (p:=⟨b,off+k*2,none⟩) hb];exact g1,fun q os=>by rw[Later.cell ⟨q,os,rfl⟩ (p:=⟨b,off+k*2+1,none⟩) hb];exact g2,hf⟩
theorem inFrom_iff {l:List FactD} {f:FactD}:inFrom l f 0=true↔f∈l:=by
 unfold inFrom;rw[List.drop_zero,List.any_eq_true];exact⟨fun⟨x,h1,h2⟩=>by rw[sameF_iff.1 h2] at h1;exact h1,fun h=>⟨f,h,sameF_iff.2 rfl⟩⟩
theorem meet {l:List FactD} {g:FactD} (hr:Rises l) {m:Nat} (hm:m≤l.length) (ha:∀t,t<m→cmpF (l.getD t noFact) g<0) (hb:∀t,m≤t→t<l.length→0≤cmpF (l.getD t noFact) g):
  inFrom l g 0=(decide (m<l.length)&&decide (cmpF (l.getD m noFact) g=0)):=by
 rw[Bool.eq_iff_iff,inFrom_iff,Bool.and_eq_true,decide_eq_true_eq,decide_eq_true_eq]
 constructor
 ·intro h;obtain⟨t,ht,rfl⟩:=List.getElem_of_mem h;have e:l.getD t noFact=l[t]:=by rw[List.getD_eq_getElem?_getD,List.getElem?_eq_getElem ht];rfl
  have h1:m≤t:=Nat.not_lt.1 fun n=>by have:=ha t n;rw[e,three_cmpF.refl] at this;omega
  have h2:m=t:=by
   refine Classical.byContradiction fun n=> ?_;have h3:=List.pairwise_iff_getElem.1 hr m t (by omega) ht (by omega);have h4:=hb m (Nat.le_refl _) (by omega);rw[List.getD_eq_getElem?_getD,List.getElem?_eq_getElem (by omega)] at h4;have h5:(0:Int)≤cmpF l[m] l[t]:=h4;omega
  subst h2;exact⟨ht,by rw[e,three_cmpF.refl]⟩
 ·rintro⟨h1,h2⟩;rw[←three_cmpF.zero _ _ h2,List.getD_eq_getElem?_getD,List.getElem?_eq_getElem h1];exact List.getElem_mem h1
theorem ret_two {x:Value} {a b:Bool} (h:a=b):Ending.returned (.tuple #[x,.bool a])=.returned (.tuple #[x,.bool b]):=by rw[h]
theorem cell_later {w w':World} (hL:Later w w') {p:Addr} {v:Value} (hb:p.block<w.heap.size) (h:w.cell? p=some v):∀q os,(grow (w'.drewN q) os).cell? p=some v:=fun q os=>by
 rw[(hL.trans ⟨q,os,rfl⟩).cell hb];exact h
set_option maxHeartbeats 1000000 in
theorem search (v t:Value) (l:List FactD) (g:FactD) (w:World) (hf:Facts w v l) (ht:FactV w t g) (hr:Rises l):
  Calls Tryz.prog 127 #[v,t,.func (.func 128) #[] #[]] w fun e w'=>∃n:Int,e=.returned (.tuple #[.int .i64 n,.bool (inFrom l g 0)])∧Later w w':=by
 have mx:=mixed;have HF:=hide hf;have HT:=hide ht;have HR:=hide hr;obtain⟨a,cap,rfl,hn,hz⟩:=hf.addr;obtain⟨s2,rfl,l2,a2,c2,rfl,_⟩:=ht;clear hf hr
 go_enter Tryz.func127,Tryz.ntmps127
 go_wp2
 go_loopw [9,10] (fun i j wr=>∃lo hi:Nat,lo≤hi∧hi≤l.length∧i=.int .i64 lo∧j=.int .i64 hi∧Later (w.alloc (.cells #[.string g.1,.slice a2 g.2.length c2] 27)) wr∧Hid (∀t,t<lo→cmpF (l.getD t noFact) g<0)∧Hid (∀t,hi≤t→t<l.length→0≤cmpF (l.getD t noFact) g)) (fun i j _=>(intOf j).toNat- (intOf i).toNat)
 case atStart=>exact⟨0,l.length,by omega,by omega,rfl,rfl,Later.refl _,fun t ht=>absurd ht (Nat.not_lt_zero _),fun t h1 h2=>by omega⟩
 case round=>
  obtain⟨lo,hi,hlh,hin,rfl,rfl,hL,HA,HB⟩:=hrel;have hL0:Later w wr:=((Later.refl _).alloc _).trans hL;have z0:=cell_later hL (p:=⟨w.heap.size,0,none⟩) (v:=.string g.1) (by simp) (by simp);have z1:=cell_later hL (p:=⟨w.heap.size,1,none⟩) (v:=.slice a2 g.2.length c2) (by simp) (by simp)
  by_cases hlt:lo<hi
  ·rcases hz with rfl|⟨b,off,rfl⟩
   ·simp at hin;omega
   obtain⟨m,hm⟩:∃m,m=(lo+hi)/2:=⟨_,rfl⟩;have hml:m<l.length:=by omega
   have hlm:lo≤m:=by omega
   have hmh:m<hi:=by omega
   have em:((lo:Int)+(hi:Int))/2=(m:Int):=by omega
   clear hm;have hltz:(lo:Int)<(hi:Int):=by omega
   have hmz:(m:Int)<(l.length:Int):=by omega
   obtain⟨ax,lx,cx,g1,g2,fx⟩:=(HF.out.later hL0).grown hml;have hC:∀q os,Calls Tryz.prog 128 #[.agg #[.string (l.getD m noFact).1,.slice ax lx cx],.agg #[.string g.1,.slice a2 g.2.length c2]] (grow (wr.drewN q) os) fun e w''=>e=.returned (.int .i64 (cmpF (l.getD m noFact) g))∧Later (grow (wr.drewN q) os) w'':=
    fun q os=>compareF _ _ _ _ _ (fx.later ⟨q,os,rfl⟩) ((HT.out.later hL0).later ⟨q,os,rfl⟩)
   have HC:=hide hC;clear hC fx;have hlow:=HR.out;have hstep1:cmpF (l.getD m noFact) g<0→∀t,t<m+1→cmpF (l.getD t noFact) g<0:=fun h t ht=>by
    by_cases e:t=m
    ·rw[e];exact h
    ·have h3:=List.pairwise_iff_getElem.1 hlow t m (by omega) hml (by omega);refine three_cmpF.trans _ (l.getD m noFact) _ ?_ h;rw[List.getD_eq_getElem?_getD,List.getElem?_eq_getElem (by omega),List.getD_eq_getElem?_getD,List.getElem?_eq_getElem hml];exact h3
   have hstep2:0≤cmpF (l.getD m noFact) g→∀t,m≤t→t<l.length→0≤cmpF (l.getD t noFact) g:=fun h t h1 h2=>by
    by_cases e:t=m
    ·rw[e];exact h
    ·have h3:=List.pairwise_iff_getElem.1 hlow m t (by omega) h2 (by omega);refine Int.not_lt.1 fun n=> ?_;have h4:=three_cmpF.trans (l.getD m noFact) (l.getD t noFact) g (by
      rw[List.getD_eq_getElem?_getD,List.getElem?_eq_getElem (by omega),List.getD_eq_getElem?_getD,List.getElem?_eq_getElem h2];exact h3) n
     omega
   have H1:=hide hstep1;have H2:=hide hstep2;clear hstep1 hstep2 hlow;generalize hcm:cmpF (l.getD m noFact) g=cm at*;have HCM:=hide hcm;clear hcm;generalize(l.getD m noFact).1=nm at*
   by_cases hneg:cm<0
   ·go_wp2
    go_quiet_grown ((go_at_call 128;exact Calls.grown_of (HC.out _ _)))
    go_wp2
    go_roundw
    case rel=>exact⟨m+1,hi,by omega,hin,by go_num,rfl,hL.trans ⟨_,_,rfl⟩,H1.out hneg,HB⟩
    case measure=>simp[intOf];omega
   ·go_wp2
    go_quiet_grown ((go_at_call 128;exact Calls.grown_of (HC.out _ _)))
    go_wp2
    go_roundw
    case rel=>exact⟨lo,m,by omega,by omega,rfl,rfl,hL.trans ⟨_,_,rfl⟩,HA,H2.out (by omega)⟩
    case measure=>simp[intOf];omega
  ·obtain rfl:lo=hi:=by omega
   have hfin:=meet HR.out hin HA.out HB.out
   by_cases hll:lo<l.length
   ·rcases hz with rfl|⟨b,off,rfl⟩
    ·simp at hll
    have hmz:(lo:Int)<(l.length:Int):=by omega
    obtain⟨ax,lx,cx,g1,g2,fx⟩:=(HF.out.later hL0).grown hll;have hC:∀q os,Calls Tryz.prog 128 #[.agg #[.string (l.getD lo noFact).1,.slice ax lx cx],.agg #[.string g.1,.slice a2 g.2.length c2]] (grow (wr.drewN q) os) fun e w''=>e=.returned (.int .i64 (cmpF (l.getD lo noFact) g))∧Later (grow (wr.drewN q) os) w'':=
     fun q os=>compareF _ _ _ _ _ (fx.later ⟨q,os,rfl⟩) ((HT.out.later hL0).later ⟨q,os,rfl⟩)
    have HC:=hide hC;rw[decide_eq_true hll] at hfin;have HFN:=hide hfin;clear hC fx hfin;generalize hcm:cmpF (l.getD lo noFact) g=cm at*;generalize(l.getD lo noFact).1=nm at*;have HCM:=hide hcm;clear hcm;go_wp2
    go_quiet_grown ((go_at_call 128;exact Calls.grown_of (HC.out _ _)))
    go_wp2
    go_ret2
    exact⟨(lo:Int),ret_two (by rw[HFN.out,Bool.true_and,Bool.eq_iff_iff];simp),hL0.trans ⟨_,_,rfl⟩⟩
   ·rw[decide_eq_false hll] at hfin;have HFN:=hide hfin;clear hfin;have hd:decide ((lo:Int)<(l.length:Int))=false:=by rw[decide_eq_false_iff_not];omega
    go_wp2
    go_quiet (fail)
    go_wp2
    go_ret2
    exact⟨(lo:Int),ret_two (by rw[HFN.out];rfl),hL0.drewN _⟩
end Go.Proofs.YtafmbokfkbccaaaGreatDoor
namespace Go.Proofs.YtafmbokfkbccaaaGreatDoor
open Go.RowKit Go.Sort
set_option maxHeartbeats 400000 in
theorem among (a:Option Addr) (n cap:Nat) (w:World):Calls Tryz.prog 70 #[.slice a n cap] w fun e w'=>
  e=.returned (.func (.func 126) #[] #[.pointer (some ⟨w.heap.size,0,none⟩)])∧w'=w.alloc (.cells #[.slice a n cap] 24):=by
 go_enter Tryz.func70,Tryz.ntmps70
 go_wp2;go_ret;exact⟨rfl,rfl⟩
set_option maxHeartbeats 400000 in
theorem among1 (c:Nat) (v t:Value) (l:List FactD) (g:FactD) (w:World) (hc:w.cell? ⟨c,0,none⟩=some v) (hb:c<w.heap.size) (hf:Facts w v l) (ht:FactV w t g) (hr:Rises l):
  Calls Tryz.prog 126 #[t,.pointer (some ⟨c,0,none⟩)] w fun e w'=>e=.returned (.bool (inFrom l g 0))∧Later w w':=by
 have hS:=fun w' (hw:Later w w')=>search v t l g w' (hf.later hw) (ht.later hw) hr;have HS:=hide hS;obtain⟨a,cap,rfl⟩:=sliceFacts hf;obtain⟨s2,rfl,l2,a2,c2,rfl,_⟩:=ht;clear hS hf hr
 go_enter Tryz.func126,Tryz.ntmps126
 go_wp2_with (go_at_call 127;refine(HS.out _ ((Later.refl _).alloc _)).mono ?_;rintro e w1 ⟨n,rfl,hL⟩)
 go_ret;exact⟨rfl,((Later.refl _).alloc _).trans hL⟩
set_option maxHeartbeats 1000000 in
theorem inC (v t:Value) (l:List FactD) (g:FactD) (w:World) (hf:Facts w v l) (ht:FactV w t g) (hr:Rises l):
  Calls Tryz.prog 23 #[v,t] w fun e w'=>e=.returned (.bool (inFrom l g 0))∧Later w w':=by
 have hA:=fun c w' hc hb (hw:Later w w')=>among1 c v t l g w' hc hb (hf.later hw) (ht.later hw) hr;have HA:=hide hA;obtain⟨a,cap,rfl⟩:=sliceFacts hf;obtain⟨s2,rfl,l2,a2,c2,rfl,_⟩:=ht;clear hA hf hr
 go_enter Tryz.func23,Tryz.ntmps23
 go_wp2
 go_region_with (first
  |(go_at_call 70;refine(among _ _ _ _).mono ?_;rintro e w1 ⟨rfl,rfl⟩)
  |(go_at_call 126;refine(HA.out (w.heap.size+1) _ (by simp) (by simp) (by repeat (first|exact Later.refl _|assumption|refine Later.drewN ?_ _|refine Later.drew ?_|refine Later.alloc ?_ _|refine Later.grow ?_ _))).mono ?_;rintro e w2 ⟨rfl,hL⟩))
 all_goals
  go_wp2;go_ret;exact⟨rfl,Later.trans (by repeat (first|exact Later.refl _|assumption|refine Later.drewN ?_ _|refine Later.drew ?_|refine Later.alloc ?_ _|refine Later.grow ?_ _)) hL⟩
set_option maxHeartbeats 400000 in
theorem less1 (c d:Nat) (v t:Value) (l:List FactD) (g:FactD) (w:World) (hc:w.cell? ⟨c,0,none⟩=some v) (hb:c<w.heap.size) (hd:w.cell? ⟨d,0,none⟩=some (.func (.func 126) #[] #[.pointer (some ⟨c,0,none⟩)])) (hdb:d<w.heap.size) (hf:Facts w v l) (ht:FactV w t g) (hr:Rises l):
  Calls Tryz.prog 94 #[t,.pointer (some ⟨d,0,none⟩)] w fun e w'=>e=.returned (.bool (!inFrom l g 0))∧Later w w':=by
 have hA:=fun w' (hw:Later w w')=>among1 c v t l g w' (by rw[hw.cell (p:=⟨c,0,none⟩) hb];exact hc) (Nat.lt_of_lt_of_le hb hw.size) (hf.later hw) (ht.later hw) hr;have HA:=hide hA;obtain⟨s2,rfl,l2,a2,c2,rfl,_⟩:=ht;clear hA hf hr hc;generalize inFrom l g 0=r at*
 go_enter Tryz.func94,Tryz.ntmps94
 go_wp2_with (go_at_call 126;refine(HA.out _ ((Later.refl _).alloc _)).mono ?_;rintro e w1 ⟨rfl,hL⟩)
 go_ret;exact⟨rfl,((Later.refl _).alloc _).trans hL⟩
set_option maxHeartbeats 400000 in
theorem lessC (va vb:Value) (la lb:List FactD) (w:World) (ha:Facts w va la) (hb:Facts w vb lb) (hr:Rises lb):
  Calls Tryz.prog 43 #[va,vb] w fun e w'=>∃v',e=.returned v'∧OwnF w' w.heap.size v' (la.filter fun f=> !inFrom lb f 0)∧Later w w':=by
 have HA:=hide ha;have HB:=hide hb;have HR:=hide hr;obtain⟨a1,c1,rfl⟩:=sliceFacts ha;obtain⟨a2,c2,rfl⟩:=sliceFacts hb;clear ha hb hr
 go_enter Tryz.func43,Tryz.ntmps43
 go_wp2_with (go_at_call 70;refine(among _ _ _ _).mono ?_;rintro e w1 ⟨rfl,rfl⟩)
 have hL:Later w ((w.alloc (.cells #[.slice a2 lb.length c2] 24)).alloc (.cells #[.func (.func 126) #[] #[.pointer (some ⟨w.heap.size,0,none⟩)]] 131)):=(by repeat (first|exact Later.refl _|assumption|refine Later.drewN ?_ _|refine Later.drew ?_|refine Later.alloc ?_ _|refine Later.grow ?_ _));have hz:w.heap.size+1<((w.alloc (.cells #[.slice a2 lb.length c2] 24)).alloc (.cells #[.func (.func 126) #[] #[.pointer (some ⟨w.heap.size,0,none⟩)]] 131)).heap.size:=by simp
 have y0:((w.alloc (.cells #[.slice a2 lb.length c2] 24)).alloc (.cells #[.func (.func 126) #[] #[.pointer (some ⟨w.heap.size,0,none⟩)]] 131)).cell? ⟨w.heap.size,0,none⟩=some (.slice a2 lb.length c2):=by simp
 have y1:((w.alloc (.cells #[.slice a2 lb.length c2] 24)).alloc (.cells #[.func (.func 126) #[] #[.pointer (some ⟨w.heap.size,0,none⟩)]] 131)).cell? ⟨w.heap.size+1,0,none⟩=some (.func (.func 126) #[] #[.pointer (some ⟨w.heap.size,0,none⟩)]):=by simp
 generalize((w.alloc (.cells #[.slice a2 lb.length c2] 24)).alloc (.cells #[.func (.func 126) #[] #[.pointer (some ⟨w.heap.size,0,none⟩)]] 131))=W at*;refine(keep 94 #[.pointer (some ⟨w.heap.size+1,0,none⟩)] enters_less1 W.heap.size W.heap.size W W _ la (fun k=> !inFrom lb (la.getD k noFact) 0) (fun _ _=>True) (HA.out.later hL) (Later.refl _) (Nat.le_refl _) (Nat.le_refl _)
  ⟨fun k w' t hk hw _ _ hf=>(less1 w.heap.size (w.heap.size+1) _ t lb (la.getD k noFact) w' (by rw[hw.cell (p:=⟨w.heap.size,0,none⟩) (by show w.heap.size<_;omega)];exact y0) (by have:=hw.size;omega)
    (by rw[hw.cell (p:=⟨w.heap.size+1,0,none⟩) hz];exact y1) (by have:=hw.size;omega) ((HB.out.later hL).later hw) (hf.later hw) HR.out).mono fun e w'' ⟨he,hL'⟩=>⟨he,hL'.only,trivial⟩,
   fun _ _ _ _ _ _=>trivial⟩ trivial).mono ?_
 rintro e w1 ⟨v',rfl,hO,hW,_⟩;have e:=pick_filter (fun f=> !inFrom lb f 0) la la.length (Nat.le_refl _);rw[List.take_length] at e;rw[e] at hO;have HO:=hide hO;clear hO e;go_wp2;go_ret;exact⟨v',rfl,HO.out.base hL.size,hL.trans (hW.later (Later.refl _) (Nat.le_refl _))⟩
end Go.Proofs.YtafmbokfkbccaaaGreatDoor
