import Derived.Test.YtafmbokfkbccaaaGreatDoorJT15
import Derived.Test.YtafmbokfkbccaaaGreatDoorJT29
import Derived.Test.YtafmbokfkbccaaaGreatDoorJT2
import Derived.Test.YtafmbokfkbccaaaGreatDoorJT40
import Derived.Test.YtafmbokfkbccaaaGreatDoorJT41
import Derived.Test.YtafmbokfkbccaaaGreatDoorJT33
import Derived.ProofKit
import Derived.SliceStrings
import Derived.Deep.Slices
import Derived.Lib.SmallJoins
import Derived.SizedLaws
import Derived.Test.YtafmbokfkbccaaaGreatDoorRows
import Derived.JoinedCond
namespace Go.Proofs.YtafmbokfkbccaaaGreatDoor
open Go.RowKit Go.Sort Go.Maps
theorem Kc (f:aO):rZ f f=true:=sV.2 rfl
set_option maxRecDepth 100000 in
set_option maxHeartbeats 8000000 in
theorem Nv:∀(n:Nat) (x:bH) (va vb:Value) (w:World),l8 n bg w va x→l8 n bg w vb x→
  Calls Tryz.prog 20 #[va,vb] w fun e w'=>e=.returned (.bool true)∧Later w w'
 |n,x,va,vb,w,hx,hy=>by
  have IH:∀m,n=m+1→∀(k:bH) (ka kb:Value) (w':World),l8 m bg w' ka k→l8 m bg w' kb k→Calls Tryz.prog 20 #[ka,kb] w' fun e w''=>e=.returned (.bool true)∧Later w' w'':=fun m hm k ka kb w' h1 h2=>Nv m k ka kb w' h1 h2;obtain⟨s,kv,rfl,hs,hkv⟩:=hx;obtain⟨s',kv',rfl,hs',hkv'⟩:=hy;obtain⟨sa,sc,rfl⟩:=Kind.slice hs;obtain⟨ka,kc,rfl⟩:=Kind.slice hkv;obtain⟨sb,sd,rfl⟩:=Kind.slice hs';obtain⟨kb,kd,rfl⟩:=Kind.slice hkv';have hkl:=hkv.1.1;obtain⟨w1,hw1⟩:∃w1,w1=(w.alloc (.cells #[.string x.fact.1,.slice sa x.fact.2.length sc,.int .i64 x.rule,.slice ka x.kids.length kc] 30)).alloc (.cells #[.string x.fact.1,.slice sb x.fact.2.length sd,.int .i64 x.rule,.slice kb x.kids.length kd] 30):=⟨_,rfl⟩;have hL1:Later w w1:=by rw[hw1];exact((Later.refl w).alloc _).alloc _
  have hr0:w1.heap[w.heap.size]?=some (.cells #[.string x.fact.1,.slice sa x.fact.2.length sc,.int .i64 x.rule,.slice ka x.kids.length kc] 30 (0,0)):=by
   rw[hw1];simp only[bY,World.size_alloc]
   repeat (first|rw[if_pos trivial]|rw[if_pos (by omega)]|rw[if_neg (by omega)])
  have hr1:w1.heap[w.heap.size+1]?=some (.cells #[.string x.fact.1,.slice sb x.fact.2.length sd,.int .i64 x.rule,.slice kb x.kids.length kd] 30 (0,0)):=by
   rw[hw1];simp only[bY,World.size_alloc]
   repeat (first|rw[if_pos trivial]|rw[if_pos (by omega)]|rw[if_neg (by omega)])
  have hE:=GV (.agg #[.string x.fact.1,.slice sa x.fact.2.length sc]) (.agg #[.string x.fact.1,.slice sb x.fact.2.length sd]) x.fact x.fact w1 ⟨_,rfl,(jd hs).later hL1⟩ ⟨_,rfl,(jd hs').later hL1⟩;rw[Kc] at hE;have HE:=hide hE;have hs1:=(Array.getElem?_eq_some_iff.1 hr1).1;have HC:Hid (∀w',Later w1 w'→w'.cell? ⟨w.heap.size,3,none⟩=some (.slice ka x.kids.length kc)∧w'.cell? ⟨w.heap.size+1,3,none⟩=some (.slice kb x.kids.length kd)):=fun w' h=>by
   have h0:=(h.block (by omega)).trans hr0;have h1:=(h.block (by omega)).trans hr1;exact⟨(dJ h0).1.2.2.2,(dJ h1).1.2.2.2⟩
  obtain⟨⟨a0,a1,a2,a3⟩,⟨a4,a5,a6⟩,_,_⟩:=dJ hr0;obtain⟨⟨b0,b1,b2,b3⟩,⟨b4,b5,b6⟩,_,_⟩:=dJ hr1;have HKa:=hide (Kind.aJ hkv hL1);have HKb:=hide (Kind.aJ hkv' hL1);have HIH:=hide IH;have HW1:=hide hw1;have HL1:=hide hL1;have HR0:=hide hr0;have HR1:=hide hr1;clear hw1 hL1 hr0 hr1 hE hs hs' hkv hkv' IH;obtain⟨⟨fn,aH⟩,rl,kids⟩:=x;dsimp only[bH.fact,bH.rule,bH.kids] at*
  go_enter Tryz.func20,Tryz.ntmps20
  go_wp2_with (first|(rw[←HW1.out])|fail)
  refine HE.out.mono ?_;rintro e w2 ⟨rfl,hL2⟩;have Gt:=(hL2.block (Array.getElem?_eq_some_iff.1 HR0.out).1).trans HR0.out;have vO:=(hL2.block (Array.getElem?_eq_some_iff.1 HR1.out).1).trans HR1.out;obtain⟨⟨a0,a1,a2,a3⟩,⟨a4,a5,a6⟩,_,_⟩:=dJ Gt;obtain⟨⟨b0,b1,b2,b3⟩,⟨b4,b5,b6⟩,_,_⟩:=dJ vO;have HL2:=hide hL2;clear hL2 Gt vO HE HW1;go_wp2;clear a0 a1 a2 a3 a4 a5 a6 b0 b1 b2 b3 b4 b5 b6
  go_loopg [31] kids.length (fun g i wr=>∃j:Nat,j+g=kids.length∧i=.int .i64 j∧Hid (Later w1 wr))
  case atStart=>exact⟨0,by omega,rfl,HL2⟩
  case round=>
   obtain⟨j,hj,rfl,HL⟩:=hrel
   by_cases hlt:j<kids.length
   ·obtain⟨k,hk⟩:∃k,kids[j]?=some k:=⟨_,List.getElem?_eq_getElem hlt⟩;obtain⟨m,hm⟩:=pV HKa.out (by intro e;rw[e] at hlt;simp at hlt);have hKa:=HKa.out;have hKb:=HKb.out;rw[hm] at hKa hKb;obtain⟨c2b,o2,s2,kv2,e2,hb2,_,q0,q1,q2,q3,hs2,hk2⟩:=pK hKa hk;obtain⟨c3b,o3,s3,kv3,e3,hb3,_,r0,r1,r2,r3,hs3,hk3⟩:=pK hKb hk;simp only[Value.slice.injEq] at e2 e3;obtain⟨rfl,_,_⟩:=e2;obtain⟨rfl,_,_⟩:=e3;obtain⟨sa2,sc2,rfl⟩:=Kind.slice hs2;obtain⟨ka2,kc2,rfl⟩:=Kind.slice hk2;obtain⟨sa3,sc3,rfl⟩:=Kind.slice hs3;obtain⟨ka3,kc3,rfl⟩:=Kind.slice hk3;have HD:Hid (∀w',Later w1 w'→(w'.cell? ⟨c2b,o2+j*4,none⟩=some (.string k.fact.1)∧w'.cell? ⟨c2b,o2+j*4+1,none⟩=some (.slice sa2 k.fact.2.length sc2)∧w'.cell? ⟨c2b,o2+j*4+2,none⟩=some (.int .i64 k.rule)∧w'.cell? ⟨c2b,o2+j*4+3,none⟩=some (.slice ka2 k.kids.length kc2))∧
      (w'.cell? ⟨c3b,o3+j*4,none⟩=some (.string k.fact.1)∧w'.cell? ⟨c3b,o3+j*4+1,none⟩=some (.slice sa3 k.fact.2.length sc3)∧w'.cell? ⟨c3b,o3+j*4+2,none⟩=some (.int .i64 k.rule)∧w'.cell? ⟨c3b,o3+j*4+3,none⟩=some (.slice ka3 k.kids.length kc3))):=fun w' h=>
     ⟨⟨by rw[h.cell (p:=⟨c2b,o2+j*4,none⟩) hb2];exact q0,by rw[h.cell (p:=⟨c2b,o2+j*4+1,none⟩) hb2];exact q1,by rw[h.cell (p:=⟨c2b,o2+j*4+2,none⟩) hb2];exact q2,by rw[h.cell (p:=⟨c2b,o2+j*4+3,none⟩) hb2];exact q3⟩,
      ⟨by rw[h.cell (p:=⟨c3b,o3+j*4,none⟩) hb3];exact r0,by rw[h.cell (p:=⟨c3b,o3+j*4+1,none⟩) hb3];exact r1,by rw[h.cell (p:=⟨c3b,o3+j*4+2,none⟩) hb3];exact r2,by rw[h.cell (p:=⟨c3b,o3+j*4+3,none⟩) hb3];exact r3⟩⟩
    have HCl:Hid (∀w',Later w1 w'→Calls Tryz.prog 20 #[.agg #[.string k.fact.1,.slice sa2 k.fact.2.length sc2,.int .i64 k.rule,.slice ka2 k.kids.length kc2],.agg #[.string k.fact.1,.slice sa3 k.fact.2.length sc3,.int .i64 k.rule,.slice ka3 k.kids.length kc3]] w' fun e w''=>e=.returned (.bool true)∧Later w1 w''):=fun w' h=>
     (HIH.out m hm k _ _ w' ⟨_,_,rfl,Kind.aJ hs2 h,Kind.aJ hk2 h⟩ ⟨_,_,rfl,Kind.aJ hs3 h,Kind.aJ hk3 h⟩).mono fun e w'' ⟨he,hL⟩=>⟨he,h.trans hL⟩
    obtain⟨⟨kn,IU⟩,krl,kk⟩:=k;dsimp only[bH.fact,bH.rule,bH.kids] at*;have hjl:(j:Int)<(kids.length:Int):=by omega
    clear hk hKa hKb q0 q1 q2 q3 r0 r1 r2 r3 hs2 hk2 hs3 hk3 hm;go_wp2;refine wp_region_held_drew (S:=fun w'=>Later w1 w') (by kernel_rfl) HL.out.drew (fun hHeld=> ?_);refine ak (i:=0) (d:=some 34) (v:= ?_) rfl rfl hHeld ?_ ?_;rotate_left;focus intro w hSw;(try dsimp only at hSw);go_simp;try with_reducible rfl
    simp only[aK,aL,aze,asu];refine ak (i:=1) (d:=some 35) (v:= ?_) rfl rfl hHeld ?_ ?_;rotate_left;focus intro w hSw;(try dsimp only at hSw);obtain⟨p0,p1⟩:=HC.out _ hSw;go_simp;try with_reducible rfl
    simp only[aK,aL,aze,asu];refine ak (i:=2) (d:=some 36) (v:= ?_) rfl rfl hHeld ?_ ?_;rotate_left;focus intro w hSw;(try dsimp only at hSw);go_simp;try with_reducible rfl
    simp only[aK,aL,aze,asu];refine ak (i:=3) (d:=some 37) (v:= ?_) rfl rfl hHeld ?_ ?_;rotate_left;focus intro w hSw;(try dsimp only at hSw);go_simp;try with_reducible rfl
    simp only[aK,aL,aze,asu];refine ak (i:=4) (d:=some 38) (v:= ?_) rfl rfl hHeld ?_ ?_;rotate_left;focus intro w hSw;(try dsimp only at hSw);obtain⟨⟨p0,p1,p2,p3⟩,_⟩:=HD.out _ hSw;go_simp;try with_reducible rfl
    simp only[aK,aL,aze,asu];refine ak (i:=5) (d:=some 39) (v:= ?_) rfl rfl hHeld ?_ ?_;rotate_left;focus intro w hSw;(try dsimp only at hSw);go_simp;try with_reducible rfl
    simp only[aK,aL,aze,asu];refine ak (i:=6) (d:=some 40) (v:= ?_) rfl rfl hHeld ?_ ?_;rotate_left;focus intro w hSw;(try dsimp only at hSw);obtain⟨p0,p1⟩:=HC.out _ hSw;go_simp;try with_reducible rfl
    simp only[aK,aL,aze,asu];refine ak (i:=7) (d:=some 41) (v:= ?_) rfl rfl hHeld ?_ ?_;rotate_left;focus intro w hSw;(try dsimp only at hSw);go_simp;try with_reducible rfl
    simp only[aK,aL,aze,asu];refine ak (i:=8) (d:=some 42) (v:= ?_) rfl rfl hHeld ?_ ?_;rotate_left;focus intro w hSw;(try dsimp only at hSw);go_simp;try with_reducible rfl
    simp only[aK,aL,aze,asu];refine ak (i:=9) (d:=some 43) (v:= ?_) rfl rfl hHeld ?_ ?_;rotate_left;focus intro w hSw;(try dsimp only at hSw);obtain⟨_,⟨p0,p1,p2,p3⟩⟩:=HD.out _ hSw;go_simp;try with_reducible rfl
    simp only[aK,aL,aze,asu];refine wpAnyH_ready (rs:=[10]) (by kernel_rfl) (by simp) ?_;refine AllReadyH.cons rfl (fun K hK=> ?_) AllReadyH.nil;go_simp;refine(HCl.out _ hHeld).mono ?_;rintro e w3 ⟨rfl,hL3⟩;refine hK.out _ _ hL3 (fun hHeld=> ?_);clear hK K;refine ak (i:=11) (d:=some 45) (v:= ?_) rfl rfl hHeld ?_ ?_;rotate_left;focus intro w hSw;(try dsimp only at hSw);go_simp;try with_reducible rfl
    simp only[aK,aL,aze,asu];refine wpAnyH_done (by kernel_rfl) ?_ _;have HL3:=hide hL3;clear hL3 hHeld HCl HD HL;go_wp2
    go_roundg (kids.length- (j+1))
    case measure=>omega
    case rel=>exact⟨j+1,by omega,by go_num,HL3⟩
   ·go_wp2;go_ret;exact⟨rfl,HL1.out.trans HL.out⟩
end Go.Proofs.YtafmbokfkbccaaaGreatDoor
namespace Go.Proofs.YtafmbokfkbccaaaGreatDoor
open Go.RowKit Go.Sort Go.Maps
def Gv:bH:=.mk (ByteArray.empty,[]) 0 []
theorem EH (w:World):l8 60 bg w iU Gv:=⟨_,_,rfl,Kind.eT _ _ _ _ _,Kind.eT _ _ _ _ _⟩
theorem Mx {lo:Nat} {w:World} {v:Value}:∀{o:Option bH},Vn lo w v o→l8 60 bg w v (o.getD Gv)
 |none,h=>by rw[show v=iU from h];exact EH w
 |some x,h=>by
  obtain⟨s,kv,e,h1,h2⟩:=h;exact⟨s,kv,e,Kind.dQ h1,Kind.dQ h2⟩
theorem MB {w:World} {v:Value}:∀{o:Option bH},XJ w v o→l8 60 bg w v (o.getD Gv)
 |none,h=>by rw[show v=iU from h];exact EH w
 |some x,h=>h
theorem Gw {n:Nat} {x:bH} (h:Deep (n+1) x):fV (fun _=>false) (n+2) [x] (0,0)=(cnt (n+1) x,dpt (n+1) x):=by
 rw[J7 (n+1) (n+2) [x] (0,0) (by omega) (fun y hy=>by simp at hy;subst hy;exact h)];simp[qy]
set_option maxRecDepth 100000 in
set_option maxHeartbeats 8000000 in
theorem Dh (M:Nat) (pv tv fs xv:Value) (p:List aD) (told:List au) (f:au) (x:bH) (w:World) (hpv:eU.sl bg w pv p) (ht:Facts w tv told) (hf:bsK.sl bg w fs f.2) (hx:l8 M bg w xv x) (hcx:cnt (M+1) x≤4000000) (hM:M≤4000000) (hox:okX (M+1) x) (hlg:∀r∈p,Br r) (hok:∀k,okF (told.getD k aA)) (hof:okF f):
  Calls Tryz.prog 3 #[pv,tv,.agg #[.string f.1,fs],xv] w fun e w'=>e=.returned (.bool true)∧Below w.heap.size w w':=by
 have hxv:=hx;have Ka:=hx.deep;obtain⟨s,kv,rfl,hs,hkv⟩:=hx;obtain⟨pa,pc,rfl⟩:=Kind.slice hpv;obtain⟨ta,tc,rfl⟩:=aC ht;obtain⟨fa,fc,rfl⟩:=Kind.slice hf;obtain⟨sa,sc,rfl⟩:=Kind.slice hs;obtain⟨ka,kc,rfl⟩:=Kind.slice hkv;obtain⟨w1,hw1⟩:∃w1,w1=(w.alloc (.cells #[.string f.1,.slice fa f.2.length fc] 27)).alloc (.cells #[.string x.fact.1,.slice sa x.fact.2.length sc,.int .i64 x.rule,.slice ka x.kids.length kc] 30):=⟨_,rfl⟩;have hL1:Later w w1:=by rw[hw1];exact((Later.refl w).alloc _).alloc _
 have hs1:w1.heap.size=w.heap.size+2:=by rw[hw1];simp
 have hr0:w1.heap[w.heap.size]?=some (.cells #[.string f.1,.slice fa f.2.length fc] 27 (0,0)):=by
  rw[hw1];simp only[bY,World.size_alloc]
  repeat (first|rw[if_pos trivial]|rw[if_pos (by omega)]|rw[if_neg (by omega)])
 have hr1:w1.heap[w.heap.size+1]?=some (.cells #[.string x.fact.1,.slice sa x.fact.2.length sc,.int .i64 x.rule,.slice ka x.kids.length kc] 30 (0,0)):=by
  rw[hw1];simp only[bY,World.size_alloc]
  repeat (first|rw[if_pos trivial]|rw[if_pos (by omega)]|rw[if_neg (by omega)])
 have hsz:=TY M x _ w1 (hxv.below hL1.below) hcx hM;rw[Gw Ka] at hsz;have HSz:=hide hsz;have HCo:Hid (∀w',Below w.heap.size w w'→Calls Tryz.prog 15 #[.agg #[.string x.fact.1,.slice sa x.fact.2.length sc,.int .i64 x.rule,.slice ka x.kids.length kc]] w' fun e w''=>e=.returned (.tuple #[.int .i64 (cnt (M+1) x:Nat),.int .i64 (dpt (M+1) x:Nat)])∧Later w' w''):=fun w' h=>Dg M x _ w' (hxv.below h) hM hcx;have HCk:Hid (∀w',Below w.heap.size w w'→Calls Tryz.prog 16 #[.slice pa p.length pc,.slice ta told.length tc,.agg #[.string x.fact.1,.slice sa x.fact.2.length sc,.int .i64 x.rule,.slice ka x.kids.length kc]] w' fun e w''=>e=.returned (.int .i64 (qg p told M x))∧Below w.heap.size w w''∧Below w'.heap.size w' w''):=fun w' h=>
  (QN p told M x _ _ _ w' (Kind.aF hpv h) (ht.below h) (hxv.below h) hcx hM).mono fun e w'' ⟨he,hB⟩=>⟨he,aj h hB h.size,hB⟩
 have HRk:Hid (∀w',Below w.heap.size w w'→Calls Tryz.prog 17 #[.slice pa p.length pc,.slice ta told.length tc,.agg #[.string x.fact.1,.slice sa x.fact.2.length sc,.int .i64 x.rule,.slice ka x.kids.length kc]] w' fun e w''=>e=.returned (.int .i64 (qg p told M x))∧Below w.heap.size w w''∧Below w'.heap.size w' w''):=fun w' h=>
  (Pt p told M x _ _ _ w' (Kind.aF hpv h) (ht.below h) (hxv.below h) hcx hM hox hlg hok).mono fun e w'' ⟨he,hB⟩=>⟨he,aj h hB h.size,hB⟩
 have HPr:Hid (∀w',Below w.heap.size w w'→Calls Tryz.prog 18 #[.slice pa p.length pc,.slice ta told.length tc,.agg #[.string f.1,.slice fa f.2.length fc]] w' fun e w''=>∃v,e=.returned (.tuple #[v,.int .i64 (jF p told f).1])∧l8 60 bg w'' v ((jF p told f).2.getD Gv)∧Below w'.heap.size w' w''):=fun w' h=>
  (RY p told f _ _ _ w' (Kind.aF hpv h) (ht.below h) ⟨_,rfl,(jd hf).below h⟩).mono fun e w'' ⟨v,he,hO,hB⟩=>⟨v,he,Mx hO,hB⟩
 have HRp:Hid (∀w',Below w.heap.size w w'→Calls Tryz.prog 19 #[.slice pa p.length pc,.slice ta told.length tc,.agg #[.string f.1,.slice fa f.2.length fc]] w' fun e w''=>∃v,e=.returned (.tuple #[v,.int .i64 (jF p told f).1])∧l8 60 bg w'' v ((jF p told f).2.getD Gv)∧Below w'.heap.size w' w''):=fun w' h=>
  (R9 p told f _ _ _ w' (Kind.aF hpv h) (ht.below h) (Kind.aF hf h) hlg hok hof).mono fun e w'' ⟨v,he,hO,hB⟩=>⟨v,he,MB hO,hB⟩
 obtain⟨C,hC⟩:∃C,C=cnt (M+1) x:=⟨_,rfl⟩;obtain⟨D,hD⟩:∃D,D=dpt (M+1) x:=⟨_,rfl⟩;obtain⟨CK,hCK⟩:∃CK,CK=qg p told M x:=⟨_,rfl⟩;obtain⟨PE,hPE⟩:∃PE,PE=(jF p told f).1:=⟨_,rfl⟩;obtain⟨X,hX⟩:∃X,X=(jF p told f).2.getD Gv:=⟨_,rfl⟩;rw[←hC,←hD] at HSz HCo;rw[←hCK] at HCk HRk;rw[←hPE,←hX] at HPr HRp;have HL1:=hide hL1;have HR0:=hide hr0;have HR1:=hide hr1;have HW1:=hide hw1;have hlt1:w.heap.size+1<w1.heap.size:=by omega
 have hz1:w.heap.size≤w1.heap.size:=by omega
 obtain⟨⟨x0,x1,x2,x3⟩,⟨x4,x5,x6⟩,_,_⟩:=dJ hr1;clear hxv Ka hpv ht hf hs hkv hsz hw1 hL1 hr0 hr1 hs1 hcx hox hlg hok hof hC hD hCK hPE hX;obtain⟨⟨xn,Vv⟩,rl,kids⟩:=x;obtain⟨fn,aH⟩:=f;dsimp only[bH.fact,bH.rule,bH.kids] at*
 go_enter Tryz.func3,Tryz.ntmps3
 go_wp2_with (first|(rw[←HW1.out])|fail)
 refine HSz.out.mono ?_;rintro e w2 ⟨rfl,hB2⟩;have vO:=(hB2.block _ hlt1).trans HR1.out;have Gt:=(hB2.block _ (by omega)).trans HR0.out;have hBw2:=aj HL1.out.below hB2 HL1.out.size;obtain⟨⟨y0,y1,y2,y3⟩,⟨y4,y5,y6⟩,_,hlt2⟩:=dJ vO;have H3:=hide (HCo.out w2 hBw2);have P7:=hide vO;have Ns:=hide Gt;have HB2:=hide hBw2;clear hB2 vO Gt hBw2 HSz HCo HW1 x0 x1 x2 x3 x4 x5 x6 HL1 HR0 HR1
 go_wp2_with fail
 refine H3.out.mono ?_;rintro e w3 ⟨rfl,hL3⟩;have sN:=(hL3.block hlt2).trans P7.out;have FU:=(hL3.block (by omega)).trans Ns.out;have hB3:=aj HB2.out hL3.below HB2.out.size;have HCe:Hid (∀w',Below w3.heap.size w3 w'→w'.cell? ⟨w.heap.size+1,0,none⟩=some (.string xn)∧w'.cell? ⟨w.heap.size+1,0+1,none⟩=some (.slice sa Vv.length sc)∧w'.cell? ⟨w.heap.size+1,0+2,none⟩=some (.int .i64 rl)∧w'.cell? ⟨w.heap.size+1,0+3,none⟩=some (.slice ka kids.length kc)):=fun w' h=>by
  have h1:=(h.block _ (Array.getElem?_eq_some_iff.1 sN).1).trans sN;obtain⟨⟨a0,_,_,_⟩,⟨a1,a2,a3⟩,_,_⟩:=dJ h1;exact⟨a0,a1,a2,a3⟩
 have Pq:=hide FU;have HB3:=hide hB3;have ZG:=(Array.getElem?_eq_some_iff.1 FU).1;have hz3:=hB3.size;clear hL3 sN FU hB3 H3 P7 Ns HB2 y0 y1 y2 y3 y4 y5 y6 hlt2;go_wp2;refine wp_region_held_drew (S:=fun w'=>Below w3.heap.size w3 w') (by kernel_rfl) (Below.refl _ _).drew (fun hHeld=> ?_);refine ak (i:=0) (d:=some 27) (v:= ?_) rfl rfl hHeld ?_ ?_;rotate_left;focus intro w hSw;(try dsimp only at hSw);go_simp;try with_reducible rfl
 simp only[aK,aL,aze,asu];refine ak (i:=1) (d:=some 28) (v:= ?_) rfl rfl hHeld ?_ ?_;rotate_left;focus intro w hSw;(try dsimp only at hSw);go_simp;try with_reducible rfl
 simp only[aK,aL,aze,asu];refine ak (i:=2) (d:=some 29) (v:= ?_) rfl rfl hHeld ?_ ?_;rotate_left;focus intro w hSw;(try dsimp only at hSw);go_simp;try with_reducible rfl
 simp only[aK,aL,aze,asu];refine ak (i:=3) (d:=some 30) (v:= ?_) rfl rfl hHeld ?_ ?_;rotate_left;focus intro w hSw;(try dsimp only at hSw);go_simp;try with_reducible rfl
 simp only[aK,aL,aze,asu];refine ak (i:=4) (d:=some 31) (v:= ?_) rfl rfl hHeld ?_ ?_;rotate_left;focus intro w hSw;(try dsimp only at hSw);go_simp;try with_reducible rfl
 simp only[aK,aL,aze,asu];refine ak (i:=5) (d:=some 32) (v:= ?_) rfl rfl hHeld ?_ ?_;rotate_left;focus intro w hSw;(try dsimp only at hSw);go_simp;try with_reducible rfl
 simp only[aK,aL,aze,asu];refine ak (i:=6) (d:=some 33) (v:= ?_) rfl rfl hHeld ?_ ?_;rotate_left;focus intro w hSw;(try dsimp only at hSw);go_simp;try with_reducible rfl
 simp only[aK,aL,aze,asu];refine ak (i:=7) (d:=some 34) (v:= ?_) rfl rfl hHeld ?_ ?_;rotate_left;focus intro w hSw;(try dsimp only at hSw);go_simp;try with_reducible rfl
 simp only[aK,aL,aze,asu];refine ak (i:=8) (d:=some 35) (v:= ?_) rfl rfl hHeld ?_ ?_;rotate_left;focus intro w hSw;(try dsimp only at hSw);go_simp;try with_reducible rfl
 simp only[aK,aL,aze,asu];refine ak (i:=9) (d:=some 36) (v:= ?_) rfl rfl hHeld ?_ ?_;rotate_left;focus intro w hSw;(try dsimp only at hSw);go_simp;try with_reducible rfl
 simp only[aK,aL,aze,asu];refine ak (i:=10) (d:=some 37) (v:= ?_) rfl rfl hHeld ?_ ?_;rotate_left;focus intro w hSw;(try dsimp only at hSw);go_simp;try with_reducible rfl
 simp only[aK,aL,aze,asu];refine ak (i:=11) (d:=some 38) (v:= ?_) rfl rfl hHeld ?_ ?_;rotate_left;focus intro w hSw;(try dsimp only at hSw);obtain⟨p0,p1,p2,p3⟩:=HCe.out _ hSw;go_simp;try with_reducible rfl
 simp only[aK,aL,aze,asu];refine ak (i:=13) (d:=some 40) (v:= ?_) rfl rfl hHeld ?_ ?_;rotate_left;focus intro w hSw;(try dsimp only at hSw);go_simp;try with_reducible rfl
 simp only[aK,aL,aze,asu];refine ak (i:=14) (d:=some 41) (v:= ?_) rfl rfl hHeld ?_ ?_;rotate_left;focus intro w hSw;(try dsimp only at hSw);go_simp;try with_reducible rfl
 simp only[aK,aL,aze,asu];refine ak (i:=15) (d:=some 42) (v:= ?_) rfl rfl hHeld ?_ ?_;rotate_left;focus intro w hSw;(try dsimp only at hSw);obtain⟨p0,p1,p2,p3⟩:=HCe.out _ hSw;go_simp;try with_reducible rfl
 simp only[aK,aL,aze,asu];refine wpAnyH_ready (rs:=[12]) (by kernel_rfl) (by simp) ?_;refine AllReadyH.cons rfl (fun K hK=> ?_) AllReadyH.nil;go_simp;refine(HCk.out _ (aj HB3.out hHeld HB3.out.size)).mono ?_;rintro e w4 ⟨rfl,_,hB4⟩;have XU:=aj hHeld hB4 hHeld.size;refine hK.out _ _ XU (fun hHeld=> ?_);clear hK K;refine wpAnyH_ready (rs:=[16]) (by kernel_rfl) (by simp) ?_;refine AllReadyH.cons rfl (fun K hK=> ?_) AllReadyH.nil;go_simp;refine(HRk.out _ (aj HB3.out hHeld HB3.out.size)).mono ?_;rintro e w5 ⟨rfl,_,hB5⟩;have Nu:=aj hHeld hB5 hHeld.size;refine hK.out _ _ Nu (fun hHeld=> ?_);clear hK K;refine ak (i:=17) (d:=some 44) (v:= ?_) rfl rfl hHeld ?_ ?_;rotate_left;focus intro w hSw;(try dsimp only at hSw);go_simp;try with_reducible rfl
 simp only[aK,aL,aze,asu];refine ak (i:=18) (d:=some 45) (v:= ?_) rfl rfl hHeld ?_ ?_;rotate_left;focus intro w hSw;(try dsimp only at hSw);go_simp;try with_reducible rfl
 simp only[aK,aL,aze,asu];refine wpAnyH_done (by kernel_rfl) ?_ _;have LH:=(Nu.block _ ZG).trans Pq.out;have Ed:=aj HB3.out Nu HB3.out.size;have H6:=hide (HPr.out w5 Ed);obtain⟨q0,q1,_,_,hlf⟩:=iK LH;have q1':w5.cell? ⟨w.heap.size,0+1,none⟩=some (.slice fa aH.length fc):=q1;have XV:=hide LH;have HB5:=hide Ed;clear hHeld hB4 XU hB5 Nu LH Ed HCk HRk HPr HCe HB3 Pq q1
 go_wp2_with fail
 refine H6.out.mono ?_;rintro e w6 ⟨v6,rfl,hV6,hB6⟩;obtain⟨s6,k6,rfl,hs6,hk6⟩:=hV6;obtain⟨s6a,s6c,rfl⟩:=Kind.slice hs6;obtain⟨k6a,k6c,rfl⟩:=Kind.slice hk6;obtain⟨w7,hw7⟩:∃w7,w7=w6.alloc (.cells #[.string X.fact.1,.slice s6a X.fact.2.length s6c,.int .i64 X.rule,.slice k6a X.kids.length k6c] 30):=⟨_,rfl⟩;have hL7:Later w6 w7:=by rw[hw7];exact(Later.refl w6).alloc _
 have hr7:w7.heap[w6.heap.size]?=some (.cells #[.string X.fact.1,.slice s6a X.fact.2.length s6c,.int .i64 X.rule,.slice k6a X.kids.length k6c] 30 (0,0)):=by rw[hw7];exact heap_alloc_new w6 _
 have Vw:Below w5.heap.size w5 w7:=aj hB6 hL7.below hB6.size;have Vx:=aj HB5.out Vw HB5.out.size;have XW:=(Vw.block _ hlf).trans XV.out;have H8:=hide (HRp.out w7 Vx);obtain⟨q0,q1,_,_,_⟩:=iK XW;have q1':w7.cell? ⟨w.heap.size,0+1,none⟩=some (.slice fa aH.length fc):=q1;have HS7:=hide (Kind.aJ hs6 hL7);have HK7:=hide (Kind.aJ hk6 hL7);have HR7:=hide hr7;have HB7:=hide Vx;have HW7:=hide hw7;clear hs6 hk6 hw7 hL7 hr7 Vw Vx XW hB6 H6 HRp q1 XV HB5;obtain⟨⟨Xn,Ke⟩,Xr,Xk⟩:=X;dsimp only[bH.fact,bH.rule,bH.kids] at*
 go_wp2_with (first|(rw[←HW7.out])|fail)
 refine H8.out.mono ?_;rintro e w8 ⟨v8,rfl,hV8,hB8⟩;obtain⟨s8,k8,rfl,hs8,hk8⟩:=hV8;dsimp only[bH.fact,bH.rule,bH.kids] at*;obtain⟨s8a,s8c,rfl⟩:=Kind.slice hs8;obtain⟨k8a,k8c,rfl⟩:=Kind.slice hk8;obtain⟨w9,hw9⟩:∃w9,w9=w8.alloc (.cells #[.string Xn,.slice s8a Ke.length s8c,.int .i64 Xr,.slice k8a Xk.length k8c] 30):=⟨_,rfl⟩;have hL9:Later w8 w9:=by rw[hw9];exact(Later.refl w8).alloc _
 have hr9:w9.heap[w8.heap.size]?=some (.cells #[.string Xn,.slice s8a Ke.length s8c,.int .i64 Xr,.slice k8a Xk.length k8c] 30 (0,0)):=by rw[hw9];exact heap_alloc_new w8 _
 have Sc:Below w7.heap.size w7 w9:=aj hB8 hL9.below hB8.size;have XY:=(Sc.block _ (Array.getElem?_eq_some_iff.1 HR7.out).1).trans HR7.out;have HSm:=hide (Nv 60 (.mk (Xn,Ke) Xr Xk) (.agg #[.string Xn,.slice s6a Ke.length s6c,.int .i64 Xr,.slice k6a Xk.length k6c]) (.agg #[.string Xn,.slice s8a Ke.length s8c,.int .i64 Xr,.slice k8a Xk.length k8c]) w9 ⟨_,_,rfl,Kind.aF HS7.out Sc,Kind.aF HK7.out Sc⟩ ⟨_,_,rfl,Kind.aJ hs8 hL9,Kind.aJ hk8 hL9⟩);obtain⟨⟨a0,a1,a2,a3⟩,⟨a4,a5,a6⟩,_,_⟩:=dJ XY;obtain⟨⟨b0,b1,b2,b3⟩,⟨b4,b5,b6⟩,_,_⟩:=dJ hr9;have HB9:=hide (aj HB7.out Sc HB7.out.size);have HW9:=hide hw9;clear hs8 hk8 hw9 hL9 hr9 Sc XY hB8 H8 HS7 HK7 HR7 HB7 HW7 q0 q1'
 go_wp2_with (first|(rw[←HW9.out])|fail)
 refine HSm.out.mono ?_;rintro e w10 ⟨rfl,qx⟩;have ZH:=hide (aj HB9.out qx.below HB9.out.size);clear qx HSm;go_wp2;go_ret;exact⟨rfl,ZH.out⟩
end Go.Proofs.YtafmbokfkbccaaaGreatDoor
namespace Go.Proofs.YtafmbokfkbccaaaGreatDoor
open Go.RowKit Go.Sort Go.ChangeShapes Go.WideShapes Go.ChangeAt
variable {H:Type} {enc:TypeId×Value→H} {W:World}
end Go.Proofs.YtafmbokfkbccaaaGreatDoor
namespace Go.Proofs.YtafmbokfkbccaaaGreatDoor
open Go.RowKit Go.Sort Go.ChangeShapes Go.WideShapes Go.ChangeAt Go.Deep
variable {H:Type} {enc:TypeId×Value→H} {W:World}
theorem MC (d:DataW H):1≤Rows.uptoBulk d:=by
 cases d with
 |lit l=>cases l <;> simp[Rows.uptoBulk]
 |nil=>simp[Rows.uptoBulk]
 |ptr d=>simp[Rows.uptoBulk]
 |slice elems spare=>simp[Rows.uptoBulk]
 |agg parts=>simp[Rows.uptoBulk]
 |iface t d=>simp[Rows.uptoBulk]
 |map entries=>simp[Rows.uptoBulk]
 |held h=>simp[Rows.uptoBulk]
theorem Kg {d:DataW H} {l:List (DataW H)} (h:d∈l):Rows.uptoBulk d≤Rows.uptoBulkAll l:=by
 induction l with
 |nil=>cases h
 |cons x r ih=>
  simp only[Rows.uptoBulkAll];cases List.mem_cons.1 h with
  |inl e=>subst e;omega
  |inr e=>have:=ih e;omega
end Go.Proofs.YtafmbokfkbccaaaGreatDoor
