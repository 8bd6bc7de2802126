import Derived.Test.YtaallngooaaonaaGreatDoorJT15
import Derived.Test.YtaallngooaaonaaGreatDoorJT29
import Derived.Test.YtaallngooaaonaaGreatDoorJT2
import Derived.Test.YtaallngooaaonaaGreatDoorJT40
import Derived.Test.YtaallngooaaonaaGreatDoorJT41
import Derived.Test.YtaallngooaaonaaGreatDoorJT33
import Derived.ProofKit
import Derived.SliceStrings
import Derived.Deep.Slices
import Derived.Lib.SmallJoins
import Derived.SizedLaws
import Derived.Test.YtaallngooaaonaaGreatDoorRows
import Derived.JoinedCond
open Go.RowKit Go.Sort Go.Maps Go.ChangeShapes Go.WideShapes Go.ChangeAt Go.Deep
set_option maxHeartbeats 8000000
set_option maxRecDepth 100000
namespace Go.Proofs.YtaallngooaaonaaGreatDoor
theorem JV (f:aN):rT f f=true:=sN.2 rfl
theorem Na:∀(n:Nat) (x:bG) (va vb:Value) (w:World),lV n bf w va x→lV n bf w vb x→
  Calls Tryz.prog 10 #[va,vb] w fun e w'=>e=.returned (.bool true)∧ak w w'
 |n,x,va,vb,w,hx,hy=>by
  have IH:∀m,n=m+1→∀(k:bG) (ka kb:Value) (w':World),lV m bf w' ka k→lV m bf w' kb k→Calls Tryz.prog 10 #[ka,kb] w' fun e w''=>e=.returned (.bool true)∧ak w' w'':=fun m hm k ka kb w' h1 h2=>Na m k ka kb w' h1 h2;obtain⟨s,kv,rfl,hs,hkv⟩:=hx;obtain⟨s',kv',rfl,hs',hkv'⟩:=hy;obtain⟨sa,sc,rfl⟩:=aB.slice hs;obtain⟨ka,kc,rfl⟩:=aB.slice hkv;obtain⟨sb,sd,rfl⟩:=aB.slice hs';obtain⟨kb,kd,rfl⟩:=aB.slice hkv';have hkl:=hkv.1.1;obtain⟨w1,hw1⟩:∃w1,w1=(w.alloc (.cells #[.string x.fact.1,.slice sa x.fact.2.length sc,.int .i64 x.rule,.slice ka x.kids.length kc] 30)).alloc (.cells #[.string x.fact.1,.slice sb x.fact.2.length sd,.int .i64 x.rule,.slice kb x.kids.length kd] 30):=⟨_,rfl⟩;have hL1:ak w w1:=by rw[hw1];exact((ak.refl w).alloc _).alloc _
  have hr0:w1.heap[w.heap.size]?=some (.cells #[.string x.fact.1,.slice sa x.fact.2.length sc,.int .i64 x.rule,.slice ka x.kids.length kc] 30 (0,0)):=by
   rw[hw1];simp only[bV,World.size_alloc]
   repeat (first|rw[if_pos trivial]|rw[if_pos (by omega)]|rw[if_neg (by omega)])
  have hr1:w1.heap[w.heap.size+1]?=some (.cells #[.string x.fact.1,.slice sb x.fact.2.length sd,.int .i64 x.rule,.slice kb x.kids.length kd] 30 (0,0)):=by
   rw[hw1];simp only[bV,World.size_alloc]
   repeat (first|rw[if_pos trivial]|rw[if_pos (by omega)]|rw[if_neg (by omega)])
  have hE:=Gy (.agg #[.string x.fact.1,.slice sa x.fact.2.length sc]) (.agg #[.string x.fact.1,.slice sb x.fact.2.length sd]) x.fact x.fact w1 ⟨_,rfl,(iX hs).later hL1⟩ ⟨_,rfl,(iX hs').later hL1⟩;rw[JV] at hE;have HE:=au hE;have hs1:=(Array.getElem?_eq_some_iff.1 hr1).1;have HC:Hid (∀w',ak w1 w'→w'.cell? ⟨w.heap.size,3,none⟩=some (.slice ka x.kids.length kc)∧w'.cell? ⟨w.heap.size+1,3,none⟩=some (.slice kb x.kids.length kd)):=fun w' h=>by have h0:=(h.block (by omega)).trans hr0;have h1:=(h.block (by omega)).trans hr1;exact⟨(dG h0).1.2.2.2,(dG h1).1.2.2.2⟩
  obtain⟨⟨a0,a1,a2,a3⟩,⟨a4,a5,a6⟩,_,_⟩:=dG hr0;obtain⟨⟨b0,b1,b2,b3⟩,⟨b4,b5,b6⟩,_,_⟩:=dG hr1;have HKa:=au (aB.aK hkv hL1);have HKb:=au (aB.aK hkv' hL1);have HIH:=au IH;have HW1:=au hw1;have HL1:=au hL1;have HR0:=au hr0;have HR1:=au hr1;clear hw1 hL1 hr0 hr1 hE hs hs' hkv hkv' IH;obtain⟨⟨fn,aH⟩,rl,kids⟩:=x;dsimp only[bG.fact,bG.rule,bG.kids] at*
  go_enter Tryz.func10,Tryz.ntmps10
  go_wp2_with (first|(rw[←HW1.out])|fail)
  refine HE.out.mono ?_;rintro e w2 ⟨rfl,hL2⟩;have Gc:=(hL2.block (Array.getElem?_eq_some_iff.1 HR0.out).1).trans HR0.out;have vI:=(hL2.block (Array.getElem?_eq_some_iff.1 HR1.out).1).trans HR1.out;obtain⟨⟨a0,a1,a2,a3⟩,⟨a4,a5,a6⟩,_,_⟩:=dG Gc;obtain⟨⟨b0,b1,b2,b3⟩,⟨b4,b5,b6⟩,_,_⟩:=dG vI;have HL2:=au hL2;clear hL2 Gc vI HE HW1;go_wp2;clear a0 a1 a2 a3 a4 a5 a6 b0 b1 b2 b3 b4 b5 b6
  go_loopg [31] kids.length (fun g i wr=>∃j:Nat,j+g=kids.length∧i=.int .i64 j∧Hid (ak w1 wr))
  case atStart=>exact⟨0,by omega,rfl,HL2⟩
  obtain⟨j,hj,rfl,HL⟩:=hrel
  by_cases hlt:j<kids.length
  ·obtain⟨k,hk⟩:∃k,kids[j]?=some k:=⟨_,List.getElem?_eq_getElem hlt⟩;obtain⟨m,hm⟩:=pK HKa.out (by intro e;rw[e] at hlt;simp at hlt);have hKa:=HKa.out;have hKb:=HKb.out;rw[hm] at hKa hKb;obtain⟨c2b,o2,s2,kv2,e2,hb2,_,q0,q1,q2,q3,hs2,hk2⟩:=pE hKa hk;obtain⟨c3b,o3,s3,kv3,e3,hb3,_,r0,r1,r2,r3,hs3,hk3⟩:=pE hKb hk;simp only[Value.slice.injEq] at e2 e3;obtain⟨rfl,_,_⟩:=e2;obtain⟨rfl,_,_⟩:=e3;obtain⟨sa2,sc2,rfl⟩:=aB.slice hs2;obtain⟨ka2,kc2,rfl⟩:=aB.slice hk2;obtain⟨sa3,sc3,rfl⟩:=aB.slice hs3;obtain⟨ka3,kc3,rfl⟩:=aB.slice hk3;have HD:Hid (∀w',ak w1 w'→(w'.cell? ⟨c2b,o2+j*4,none⟩=some (.string k.fact.1)∧w'.cell? ⟨c2b,o2+j*4+1,none⟩=some (.slice sa2 k.fact.2.length sc2)∧w'.cell? ⟨c2b,o2+j*4+2,none⟩=some (.int .i64 k.rule)∧w'.cell? ⟨c2b,o2+j*4+3,none⟩=some (.slice ka2 k.kids.length kc2))∧
     (w'.cell? ⟨c3b,o3+j*4,none⟩=some (.string k.fact.1)∧w'.cell? ⟨c3b,o3+j*4+1,none⟩=some (.slice sa3 k.fact.2.length sc3)∧w'.cell? ⟨c3b,o3+j*4+2,none⟩=some (.int .i64 k.rule)∧w'.cell? ⟨c3b,o3+j*4+3,none⟩=some (.slice ka3 k.kids.length kc3))):=fun w' h=>
    ⟨⟨by rw[h.cell (p:=⟨c2b,o2+j*4,none⟩) hb2];exact q0,by rw[h.cell (p:=⟨c2b,o2+j*4+1,none⟩) hb2];exact q1,by rw[h.cell (p:=⟨c2b,o2+j*4+2,none⟩) hb2];exact q2,by rw[h.cell (p:=⟨c2b,o2+j*4+3,none⟩) hb2];exact q3⟩,
     ⟨by rw[h.cell (p:=⟨c3b,o3+j*4,none⟩) hb3];exact r0,by rw[h.cell (p:=⟨c3b,o3+j*4+1,none⟩) hb3];exact r1,by rw[h.cell (p:=⟨c3b,o3+j*4+2,none⟩) hb3];exact r2,by rw[h.cell (p:=⟨c3b,o3+j*4+3,none⟩) hb3];exact r3⟩⟩
   have HCl:Hid (∀w',ak w1 w'→Calls Tryz.prog 10 #[.agg #[.string k.fact.1,.slice sa2 k.fact.2.length sc2,.int .i64 k.rule,.slice ka2 k.kids.length kc2],.agg #[.string k.fact.1,.slice sa3 k.fact.2.length sc3,.int .i64 k.rule,.slice ka3 k.kids.length kc3]] w' fun e w''=>e=.returned (.bool true)∧ak w1 w''):=fun w' h=>
    (HIH.out m hm k _ _ w' ⟨_,_,rfl,aB.aK hs2 h,aB.aK hk2 h⟩ ⟨_,_,rfl,aB.aK hs3 h,aB.aK hk3 h⟩).mono fun e w'' ⟨he,hL⟩=>⟨he,h.trans hL⟩
   obtain⟨⟨kn,Iu⟩,krl,kk⟩:=k;dsimp only[bG.fact,bG.rule,bG.kids] at*;have hjl:(j:Int)<(kids.length:Int):=by omega
   clear hk hKa hKb q0 q1 q2 q3 r0 r1 r2 r3 hs2 hk2 hs3 hk3 hm;go_wp2;refine wp_region_held_drew (S:=fun w'=>ak w1 w') (by kernel_rfl) HL.out.drew (fun hHeld=>?_);refine tkY 0 34 hHeld ?_;refine tkY 1 35 hHeld ?_ rfl fun w hSw=>by obtain⟨p0,p1⟩:=HC.out _ hSw;go_simp;try with_reducible rfl
   refine tkY 2 36 hHeld ?_;refine tkY 3 37 hHeld ?_;refine tkY 4 38 hHeld ?_ rfl fun w hSw=>by obtain⟨⟨p0,p1,p2,p3⟩,_⟩:=HD.out _ hSw;go_simp;try with_reducible rfl
   refine tkY 5 39 hHeld ?_;refine tkY 6 40 hHeld ?_ rfl fun w hSw=>by obtain⟨p0,p1⟩:=HC.out _ hSw;go_simp;try with_reducible rfl
   refine tkY 7 41 hHeld ?_;refine tkY 8 42 hHeld ?_;refine tkY 9 43 hHeld ?_ rfl fun w hSw=>by obtain⟨_,⟨p0,p1,p2,p3⟩⟩:=HD.out _ hSw;go_simp;try with_reducible rfl
   refine tkC 10 fun K hK=>?_;go_simp;refine(HCl.out _ hHeld).mono ?_;rintro e w3 ⟨rfl,hL3⟩;refine hK.out _ _ hL3 (fun hHeld=>?_);clear hK K;refine tkY 11 45 hHeld ?_;refine wpAnyH_done (by kernel_rfl) ?_ _;have HL3:=au hL3;clear hL3 hHeld HCl HD HL;go_wp2
   go_roundg (kids.length- (j+1))
   case measure=>omega
   case rel=>exact⟨j+1,by omega,by go_num,HL3⟩
  go_wp2;go_ret;exact⟨rfl,HL1.out.trans HL.out⟩
def Gf:bG:=.mk (ByteArray.empty,[]) 0 []
theorem Es (w:World):lV 60 bf w iQ Gf:=⟨_,_,rfl,aB.eH _ _ _ _ _,aB.eH _ _ _ _ _⟩
theorem Mg {lo:Nat} {w:World} {v:Value}:∀{o:Option bG},Vj lo w v o→lV 60 bf w v (o.getD Gf)
 |none,h=>by rw[show v=iQ from h];exact Es w
 |some x,h=>by obtain⟨s,kv,e,h1,h2⟩:=h;exact⟨s,kv,e,aB.dO h1,aB.dO h2⟩
theorem Mh {w:World} {v:Value}:∀{o:Option bG},XH w v o→lV 60 bf w v (o.getD Gf)
 |none,h=>by rw[show v=iQ from h];exact Es w
 |some x,h=>h
theorem Gg {n:Nat} {x:bG} (h:Deep (n+1) x):fT (fun _=>false) (n+2) [x] (0,0)=(cnt (n+1) x,dpt (n+1) x):=by rw[JO (n+1) (n+2) [x] (0,0) (by omega) (fun y hy=>by simp at hy;subst hy;exact h)];simp[ql]
theorem CY (M:Nat) (pv tv fs xv:Value) (p:List aG) (told:List aA) (f:aA) (x:bG) (w:World) (hpv:eP.sl bf w pv p) (ht:Facts w tv told) (hf:bsK.sl bf w fs f.2) (hx:lV M bf w xv x) (hcx:cnt (M+1) x≤4000000) (hM:M≤4000000) (hox:okX (M+1) x) (hlg:∀r∈p,Bg r) (hok:∀k,okF (told.getD k aC)) (hof:okF f):
  Calls Tryz.prog 3 #[pv,tv,.agg #[.string f.1,fs],xv] w fun e w'=>e=.returned (.bool true)∧Below w.heap.size w w':=by
 have hxv:=hx;have JU:=hx.deep;obtain⟨s,kv,rfl,hs,hkv⟩:=hx;obtain⟨pa,pc,rfl⟩:=aB.slice hpv;obtain⟨ta,tc,rfl⟩:=aF ht;obtain⟨fa,fc,rfl⟩:=aB.slice hf;obtain⟨sa,sc,rfl⟩:=aB.slice hs;obtain⟨ka,kc,rfl⟩:=aB.slice hkv;obtain⟨w1,hw1⟩:∃w1,w1=(w.alloc (.cells #[.string f.1,.slice fa f.2.length fc] 27)).alloc (.cells #[.string x.fact.1,.slice sa x.fact.2.length sc,.int .i64 x.rule,.slice ka x.kids.length kc] 30):=⟨_,rfl⟩;have hL1:ak w w1:=by rw[hw1];exact((ak.refl w).alloc _).alloc _
 have hs1:w1.heap.size=w.heap.size+2:=by rw[hw1];simp
 have hr0:w1.heap[w.heap.size]?=some (.cells #[.string f.1,.slice fa f.2.length fc] 27 (0,0)):=by
  rw[hw1];simp only[bV,World.size_alloc]
  repeat (first|rw[if_pos trivial]|rw[if_pos (by omega)]|rw[if_neg (by omega)])
 have hr1:w1.heap[w.heap.size+1]?=some (.cells #[.string x.fact.1,.slice sa x.fact.2.length sc,.int .i64 x.rule,.slice ka x.kids.length kc] 30 (0,0)):=by
  rw[hw1];simp only[bV,World.size_alloc]
  repeat (first|rw[if_pos trivial]|rw[if_pos (by omega)]|rw[if_neg (by omega)])
 have hsz:=TS M x _ w1 (hxv.below hL1.below) hcx hM;rw[Gg JU] at hsz;have HSz:=au hsz;have HCo:Hid (∀w',Below w.heap.size w w'→Calls Tryz.prog 5 #[.agg #[.string x.fact.1,.slice sa x.fact.2.length sc,.int .i64 x.rule,.slice ka x.kids.length kc]] w' fun e w''=>e=.returned (.tuple #[.int .i64 (cnt (M+1) x:Nat),.int .i64 (dpt (M+1) x:Nat)])∧ak w' w''):=fun w' h=>CX M x _ w' (hxv.below h) hM hcx;have HCk:Hid (∀w',Below w.heap.size w w'→Calls Tryz.prog 6 #[.slice pa p.length pc,.slice ta told.length tc,.agg #[.string x.fact.1,.slice sa x.fact.2.length sc,.int .i64 x.rule,.slice ka x.kids.length kc]] w' fun e w''=>e=.returned (.int .i64 (pV p told M x))∧Below w.heap.size w w''∧Below w'.heap.size w' w''):=fun w' h=>
  (Qz p told M x _ _ _ w' (aB.aJ hpv h) (ht.below h) (hxv.below h) hcx hM).mono fun e w'' ⟨he,hB⟩=>⟨he,aj h hB h.size,hB⟩
 have HRk:Hid (∀w',Below w.heap.size w w'→Calls Tryz.prog 7 #[.slice pa p.length pc,.slice ta told.length tc,.agg #[.string x.fact.1,.slice sa x.fact.2.length sc,.int .i64 x.rule,.slice ka x.kids.length kc]] w' fun e w''=>e=.returned (.int .i64 (pV p told M x))∧Below w.heap.size w w''∧Below w'.heap.size w' w''):=fun w' h=>
  (O8 p told M x _ _ _ w' (aB.aJ hpv h) (ht.below h) (hxv.below h) hcx hM hox hlg hok).mono fun e w'' ⟨he,hB⟩=>⟨he,aj h hB h.size,hB⟩
 have HPr:Hid (∀w',Below w.heap.size w w'→Calls Tryz.prog 8 #[.slice pa p.length pc,.slice ta told.length tc,.agg #[.string f.1,.slice fa f.2.length fc]] w' fun e w''=>∃v,e=.returned (.tuple #[v,.int .i64 (jy p told f).1])∧lV 60 bf w'' v ((jy p told f).2.getD Gf)∧Below w'.heap.size w' w''):=fun w' h=>
  (RJ p told f _ _ _ w' (aB.aJ hpv h) (ht.below h) ⟨_,rfl,(iX hf).below h⟩).mono fun e w'' ⟨v,he,hO,hB⟩=>⟨v,he,Mg hO,hB⟩
 have HRp:Hid (∀w',Below w.heap.size w w'→Calls Tryz.prog 9 #[.slice pa p.length pc,.slice ta told.length tc,.agg #[.string f.1,.slice fa f.2.length fc]] w' fun e w''=>∃v,e=.returned (.tuple #[v,.int .i64 (jy p told f).1])∧lV 60 bf w'' v ((jy p told f).2.getD Gf)∧Below w'.heap.size w' w''):=fun w' h=>
  (RN p told f _ _ _ w' (aB.aJ hpv h) (ht.below h) (aB.aJ hf h) hlg hok hof).mono fun e w'' ⟨v,he,hO,hB⟩=>⟨v,he,Mh hO,hB⟩
 obtain⟨C,hC⟩:∃C,C=cnt (M+1) x:=⟨_,rfl⟩;obtain⟨D,hD⟩:∃D,D=dpt (M+1) x:=⟨_,rfl⟩;obtain⟨CK,hCK⟩:∃CK,CK=pV p told M x:=⟨_,rfl⟩;obtain⟨PE,hPE⟩:∃PE,PE=(jy p told f).1:=⟨_,rfl⟩;obtain⟨X,hX⟩:∃X,X=(jy p told f).2.getD Gf:=⟨_,rfl⟩;rw[←hC,←hD] at HSz HCo;rw[←hCK] at HCk HRk;rw[←hPE,←hX] at HPr HRp;have HL1:=au hL1;have HR0:=au hr0;have HR1:=au hr1;have HW1:=au hw1;have hlt1:w.heap.size+1<w1.heap.size:=by omega
 have hz1:w.heap.size≤w1.heap.size:=by omega
 obtain⟨⟨x0,x1,x2,x3⟩,⟨x4,x5,x6⟩,_,_⟩:=dG hr1;clear hxv JU hpv ht hf hs hkv hsz hw1 hL1 hr0 hr1 hs1 hcx hox hlg hok hof hC hD hCK hPE hX;obtain⟨⟨xn,Vr⟩,rl,kids⟩:=x;obtain⟨fn,aH⟩:=f;dsimp only[bG.fact,bG.rule,bG.kids] at*
 go_enter Tryz.func3,Tryz.ntmps3
 go_wp2_with (first|(rw[←HW1.out])|fail)
 refine HSz.out.mono ?_;rintro e w2 ⟨rfl,hB2⟩;have vI:=(hB2.block _ hlt1).trans HR1.out;have Gc:=(hB2.block _ (by omega)).trans HR0.out;have hBw2:=aj HL1.out.below hB2 HL1.out.size;obtain⟨⟨y0,y1,y2,y3⟩,⟨y4,y5,y6⟩,_,hlt2⟩:=dG vI;have H3:=au (HCo.out w2 hBw2);have Px:=au vI;have M7:=au Gc;have HB2:=au hBw2;clear hB2 vI Gc hBw2 HSz HCo HW1 x0 x1 x2 x3 x4 x5 x6 HL1 HR0 HR1
 go_wp2_with fail
 refine H3.out.mono ?_;rintro e w3 ⟨rfl,hL3⟩;have sG:=(hL3.block hlt2).trans Px.out;have Fz:=(hL3.block (by omega)).trans M7.out;have hB3:=aj HB2.out hL3.below HB2.out.size;have HCe:Hid (∀w',Below w3.heap.size w3 w'→w'.cell? ⟨w.heap.size+1,0,none⟩=some (.string xn)∧w'.cell? ⟨w.heap.size+1,0+1,none⟩=some (.slice sa Vr.length sc)∧w'.cell? ⟨w.heap.size+1,0+2,none⟩=some (.int .i64 rl)∧w'.cell? ⟨w.heap.size+1,0+3,none⟩=some (.slice ka kids.length kc)):=fun w' h=>by have h1:=(h.block _ (Array.getElem?_eq_some_iff.1 sG).1).trans sG;obtain⟨⟨a0,_,_,_⟩,⟨a1,a2,a3⟩,_,_⟩:=dG h1;exact⟨a0,a1,a2,a3⟩
 have O7:=au Fz;have HB3:=au hB3;have ZI:=(Array.getElem?_eq_some_iff.1 Fz).1;have hz3:=hB3.size;clear hL3 sG Fz hB3 H3 Px M7 HB2 y0 y1 y2 y3 y4 y5 y6 hlt2;go_wp2;refine wp_region_held_drew (S:=fun w'=>Below w3.heap.size w3 w') (by kernel_rfl) (Below.refl _ _).drew (fun hHeld=>?_);refine tkY 0 27 hHeld ?_;refine tkY 1 28 hHeld ?_;refine tkY 2 29 hHeld ?_;refine tkY 3 30 hHeld ?_;refine tkY 4 31 hHeld ?_;refine tkY 5 32 hHeld ?_;refine tkY 6 33 hHeld ?_;refine tkY 7 34 hHeld ?_;refine tkY 8 35 hHeld ?_;refine tkY 9 36 hHeld ?_;refine tkY 10 37 hHeld ?_;refine tkY 11 38 hHeld ?_ rfl fun w hSw=>by obtain⟨p0,p1,p2,p3⟩:=HCe.out _ hSw;go_simp;try with_reducible rfl
 refine tkY 13 40 hHeld ?_;refine tkY 14 41 hHeld ?_;refine tkY 15 42 hHeld ?_ rfl fun w hSw=>by obtain⟨p0,p1,p2,p3⟩:=HCe.out _ hSw;go_simp;try with_reducible rfl
 refine tkC 12 fun K hK=>?_;go_simp;refine(HCk.out _ (aj HB3.out hHeld HB3.out.size)).mono ?_;rintro e w4 ⟨rfl,_,hB4⟩;have XR:=aj hHeld hB4 hHeld.size;refine hK.out _ _ XR (fun hHeld=>?_);clear hK K;refine tkC 16 fun K hK=>?_;go_simp;refine(HRk.out _ (aj HB3.out hHeld HB3.out.size)).mono ?_;rintro e w5 ⟨rfl,_,hB5⟩;have M9:=aj hHeld hB5 hHeld.size;refine hK.out _ _ M9 (fun hHeld=>?_);clear hK K;refine tkY 17 44 hHeld ?_;refine tkY 18 45 hHeld ?_;refine wpAnyH_done (by kernel_rfl) ?_ _;have Li:=(M9.block _ ZI).trans O7.out;have DZ:=aj HB3.out M9 HB3.out.size;have H6:=au (HPr.out w5 DZ);obtain⟨q0,q1,_,_,hlf⟩:=iH Li;have q1':w5.cell? ⟨w.heap.size,0+1,none⟩=some (.slice fa aH.length fc):=q1;have XT:=au Li;have HB5:=au DZ;clear hHeld hB4 XR hB5 M9 Li DZ HCk HRk HPr HCe HB3 O7 q1
 go_wp2_with fail
 refine H6.out.mono ?_;rintro e w6 ⟨v6,rfl,hV6,hB6⟩;obtain⟨s6,k6,rfl,hs6,hk6⟩:=hV6;obtain⟨s6a,s6c,rfl⟩:=aB.slice hs6;obtain⟨k6a,k6c,rfl⟩:=aB.slice hk6;obtain⟨w7,hw7⟩:∃w7,w7=w6.alloc (.cells #[.string X.fact.1,.slice s6a X.fact.2.length s6c,.int .i64 X.rule,.slice k6a X.kids.length k6c] 30):=⟨_,rfl⟩;have hL7:ak w6 w7:=by rw[hw7];exact(ak.refl w6).alloc _
 have hr7:w7.heap[w6.heap.size]?=some (.cells #[.string X.fact.1,.slice s6a X.fact.2.length s6c,.int .i64 X.rule,.slice k6a X.kids.length k6c] 30 (0,0)):=by rw[hw7];exact heap_alloc_new w6 _
 have Vs:Below w5.heap.size w5 w7:=aj hB6 hL7.below hB6.size;have Vt:=aj HB5.out Vs HB5.out.size;have XU:=(Vs.block _ hlf).trans XT.out;have H8:=au (HRp.out w7 Vt);obtain⟨q0,q1,_,_,_⟩:=iH XU;have q1':w7.cell? ⟨w.heap.size,0+1,none⟩=some (.slice fa aH.length fc):=q1;have HS7:=au (aB.aK hs6 hL7);have HK7:=au (aB.aK hk6 hL7);have HR7:=au hr7;have HB7:=au Vt;have HW7:=au hw7;clear hs6 hk6 hw7 hL7 hr7 Vs Vt XU hB6 H6 HRp q1 XT HB5;obtain⟨⟨Xn,JW⟩,Xr,Xk⟩:=X;dsimp only[bG.fact,bG.rule,bG.kids] at*
 go_wp2_with (first|(rw[←HW7.out])|fail)
 refine H8.out.mono ?_;rintro e w8 ⟨v8,rfl,hV8,hB8⟩;obtain⟨s8,k8,rfl,hs8,hk8⟩:=hV8;dsimp only[bG.fact,bG.rule,bG.kids] at*;obtain⟨s8a,s8c,rfl⟩:=aB.slice hs8;obtain⟨k8a,k8c,rfl⟩:=aB.slice hk8;obtain⟨w9,hw9⟩:∃w9,w9=w8.alloc (.cells #[.string Xn,.slice s8a JW.length s8c,.int .i64 Xr,.slice k8a Xk.length k8c] 30):=⟨_,rfl⟩;have hL9:ak w8 w9:=by rw[hw9];exact(ak.refl w8).alloc _
 have hr9:w9.heap[w8.heap.size]?=some (.cells #[.string Xn,.slice s8a JW.length s8c,.int .i64 Xr,.slice k8a Xk.length k8c] 30 (0,0)):=by rw[hw9];exact heap_alloc_new w8 _
 have RQ:Below w7.heap.size w7 w9:=aj hB8 hL9.below hB8.size;have XV:=(RQ.block _ (Array.getElem?_eq_some_iff.1 HR7.out).1).trans HR7.out;have HSm:=au (Na 60 (.mk (Xn,JW) Xr Xk) (.agg #[.string Xn,.slice s6a JW.length s6c,.int .i64 Xr,.slice k6a Xk.length k6c]) (.agg #[.string Xn,.slice s8a JW.length s8c,.int .i64 Xr,.slice k8a Xk.length k8c]) w9 ⟨_,_,rfl,aB.aJ HS7.out RQ,aB.aJ HK7.out RQ⟩ ⟨_,_,rfl,aB.aK hs8 hL9,aB.aK hk8 hL9⟩);obtain⟨⟨a0,a1,a2,a3⟩,⟨a4,a5,a6⟩,_,_⟩:=dG XV;obtain⟨⟨b0,b1,b2,b3⟩,⟨b4,b5,b6⟩,_,_⟩:=dG hr9;have HB9:=au (aj HB7.out RQ HB7.out.size);have HW9:=au hw9;clear hs8 hk8 hw9 hL9 hr9 RQ XV hB8 H8 HS7 HK7 HR7 HB7 HW7 q0 q1'
 go_wp2_with (first|(rw[←HW9.out])|fail)
 refine HSm.out.mono ?_;rintro e w10 ⟨rfl,qj⟩;have ZJ:=au (aj HB9.out qj.below HB9.out.size);clear qj HSm;go_wp2;go_ret;exact⟨rfl,ZJ.out⟩
section
variable {H:Type} {enc:TypeId×Value→H} {W:World}
end
section
variable {H:Type} {enc:TypeId×Value→H} {W:World}
theorem Mi (d:DataW H):1≤Rows.uptoBulk d:=by
 cases d with
 |lit l=>cases l <;> simp[Rows.uptoBulk]
 |nil=>simp[Rows.uptoBulk]
 |ptr d=>simp[Rows.uptoBulk]
 |slice elems spare=>simp[Rows.uptoBulk]
 |agg parts=>simp[Rows.uptoBulk]
 |iface t d=>simp[Rows.uptoBulk]
 |map entries=>simp[Rows.uptoBulk]
 |held h=>simp[Rows.uptoBulk]
theorem JX {d:DataW H} {l:List (DataW H)} (h:d∈l):Rows.uptoBulk d≤Rows.uptoBulkAll l:=by
 induction l with
 |nil=>cases h
 |cons x r ih=>
  simp only[Rows.uptoBulkAll];cases List.mem_cons.1 h with
  |inl e=>subst e;omega
  |inr e=>have:=ih e;omega
end
end Go.Proofs.YtaallngooaaonaaGreatDoor
