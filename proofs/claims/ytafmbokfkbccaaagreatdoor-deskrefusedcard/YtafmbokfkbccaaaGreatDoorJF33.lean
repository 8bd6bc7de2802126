import Derived.Test.YtafmbokfkbccaaaGreatDoorJF32
import Derived.Test.YtafmbokfkbccaaaGreatDoorJF23
namespace Go.Proofs.YtafmbokfkbccaaaGreatDoor
open Go.RowKit Go.Sort
theorem xq (x:DoD) (a:pV):∀(l:List DoD) (A:List pV),l.length=A.length→jK (l++[x]) (A++[a])=jK l A++if a.err=0∧x.kind≠5∧x.kind≠6 then[x] else[]
 |[],[],_=>by simp only[List.nil_append,jK]
 |y::l,b::A,h=>by
  have ih:=xq x a l A (by simpa using h);simp only[List.cons_append,jK,ih];split <;> simp
 |[],_::_,h=>by simp at h
 |_::_,[],h=>by simp at h
theorem uN:∀(l:List DoD) (A:List pV),(jK l A).length≤l.length
 |[],A=>by simp[jK]
 |x::l,[]=>by simp[jK]
 |x::l,a::A=>by
  have:=uN l A;unfold jK;split
  ·simp;omega
  ·simp;omega
set_option maxRecDepth 100000 in
set_option maxHeartbeats 8000000 in
theorem Bc (φ:Prover) (hφ:DX φ) (l:List DoD) (lv:Value) (w:World) (hl:doK.sl bY w lv l) (m:Int) (hm:w.cell? ⟨1,0,none⟩=some (.int .i64 m)) (hmw:1<w.heap.size):
  Calls Tryz.prog 10 #[lv] w fun e w'=>e=.returned (.bool true)∧Below w.heap.size w w':=by
 have HA:=hide (P7 w m hm hmw);have HM:Hid (∀w',Below w.heap.size w w'→w'.cell? ⟨1,0,none⟩=some (.int .i64 m)∧1<w'.heap.size):=fun w' h=>⟨by rw[h.cell (p:=⟨1,0,none⟩) hmw];exact hm,Nat.lt_of_lt_of_le hmw h.size⟩;obtain⟨la,lc,rfl⟩:=Kind.slice hl;have HV:=hide hl;have HΦ:=hide hφ;have hll:=hl.1.1;clear hm hmw hl hφ
 go_enter Tryz.func10,Tryz.ntmps10
 go_wp2_with fail
 refine HA.out.mono ?_;rintro e w1 ⟨rfl,hB1⟩;have HB1:=hide hB1;clear HA hB1;have HPc:=hide (M8 φ l _ w1 (Kind.aX HV.out HB1.out) m (HM.out w1 HB1.out).1 (HM.out w1 HB1.out).2 (fun _ _ _=>HΦ.out))
 by_cases h60:60<l.length
 ·have hPl:mZ φ l=(iP,[],5):=by unfold mZ;rw[if_pos h60]
  rw[hPl] at HPc
  go_wp2_with fail
  refine HPc.out.mono ?_;rintro e w2 ⟨dv,ov,rfl,hDV,hAV,hB2⟩;obtain⟨xa1,xc1,xa2,xc2,xa3,xc3,xa4,xc4,xa5,xc5,rfl,_⟩:=hDV.slices;obtain⟨oa,oc,rfl⟩:=Kind.slice hAV;have HB2:=hide (aj HB1.out hB2 HB1.out.size);clear hDV hAV hB2 HPc hPl;go_wp2;go_ret;exact⟨rfl,aj HB2.out ((Later.refl _).alloc _).below HB2.out.size⟩
 obtain⟨D,A,hPl⟩:∃D A,eG φ iP l=(D,A):=⟨_,_,rfl⟩;have Ut:mZ φ l=(D,A,0):=by unfold mZ;rw[if_neg h60,hPl]
 have hAl:A.length=l.length:=by have:=qH φ l iP;rw[hPl] at this;exact this
 have hgood:=uM φ l iP;rw[hPl] at hgood;dsimp only at hgood;obtain⟨G,hG⟩:∃G,G=jK l A:=⟨_,rfl⟩;rw[←hG] at hgood;have hGl:G.length≤l.length:=by rw[hG];exact uN l A
 obtain⟨D',A',hPg⟩:∃D A,eG φ iP G=(D,A):=⟨_,_,rfl⟩;rw[hPg] at hgood;obtain⟨hD',hA'⟩:=hgood;dsimp only at hD' hA';subst hD';have Uu:mZ φ G=(D',A',0):=by unfold mZ;rw[if_neg (by omega),hPg]
 have Xy:A'.length≤60:=by have:=qH φ G iP;rw[hPg] at this;dsimp only at this;omega
 rw[Ut] at HPc;have HPg:=hide Uu;have HG:=hide hG;have HAl:=hide hAl;have HA':=hide hA';clear hPl Ut hAl hG hPg Uu hA'
 go_wp2_with fail
 refine HPc.out.mono ?_;rintro e w2 ⟨dv,ov,rfl,hDV,hAV,hB2⟩;obtain⟨xa1,xc1,xa2,xc2,xa3,xc3,xa4,xc4,xa5,xc5,rfl,_⟩:=hDV.slices;obtain⟨oa,on,oc,rfl⟩:∃a n c,ov=.slice a n c:=by obtain⟨a,c,e⟩:=Kind.slice hAV;exact⟨a,_,c,e⟩
 obtain⟨w3,hw3⟩:∃w3,w3=w2.alloc (.cells #[.slice xa1 D'.told.length xc1,.slice xa2 D'.rules.length xc2,.bool D'.running,.slice xa3 D'.run.known.length xc3,.slice xa4 D'.run.fresh.length xc4,.int .i64 D'.run.level,.int .i64 D'.run.rounds,.bool D'.run.done,.slice xa5 D'.saved.length xc5] 56):=⟨_,rfl⟩;have hL3:Later w2 w3:=by rw[hw3];exact(Later.refl _).alloc _
 have hr3:w3.heap[w2.heap.size]?=some (.cells #[.slice xa1 D'.told.length xc1,.slice xa2 D'.rules.length xc2,.bool D'.running,.slice xa3 D'.run.known.length xc3,.slice xa4 D'.run.fresh.length xc4,.int .i64 D'.run.level,.int .i64 D'.run.rounds,.bool D'.run.done,.slice xa5 D'.saved.length xc5] 56 (0,0)):=by rw[hw3];exact heap_alloc_new _ _
 have HB3:Hid (Below w.heap.size w w3):=aj (aj HB1.out hB2 HB1.out.size) hL3.below (Nat.le_trans HB1.out.size hB2.size);have HD3:=hide (hDV.below hL3.below);have HA3:=hide (Kind.aN (Kind.bW hAV) hL3);have BD:=hide hr3;have HW3:=hide hw3;clear hDV hAV hB2 hw3 hL3 hr3 HPc HB1
 go_wp2_with (first|(rw[←HW3.out])|fail)
 clear HW3
 go_loopg [6,28] l.length (fun q v i wr=>∃j:Nat,j+q=l.length∧i=.int .i64 j∧Hid (vH w3 wr v (jK (l.take j) (A.take j))))
 case atStart=>exact⟨0,by omega,rfl,vH.nil _⟩
 case round=>
  obtain⟨j,hj,rfl,HS⟩:=hrel;obtain⟨va,vn,vc,rfl⟩:∃a n c,u6=.slice a n c:=by obtain⟨a,c,e⟩:=HS.out.slice;exact⟨a,_,c,e⟩
  by_cases hlt:j<l.length
  ·have hltz:(j:Int)<(l.length:Int):=by omega
   have hal:=HAl.out;obtain⟨x,hx⟩:∃x,l[j]?=some x:=⟨_,List.getElem?_eq_getElem hlt⟩;obtain⟨y,hy⟩:∃y,A[j]?=some y:=⟨_,List.getElem?_eq_getElem (by omega)⟩;obtain⟨b1,o1,_,e1,hb1,⟨xs,hce,hxs⟩,hc⟩:=Kind.dY HV.out hx;subst e1;subst hce;obtain⟨ob,oo,_,e2,hob,⟨bv,sv,kv,rfl,_⟩,hco⟩:=Kind.dY HA3.out hy;subst e2;have hBr:=aj HB3.out HS.out.below HB3.out.size;have dc:∀i u,[.int .i64 x.kind,.int .i64 x.n,.string x.fact.1,xs,.string x.text][i]?=some u→wr.cell? ⟨b1,o1+j*5+i,none⟩=some u:=fun i u hu=>by
    rw[hBr.cell (p:=⟨b1,o1+j*5+i,none⟩) hb1];exact hc i u hu
   have d0:=dc 0 _ rfl;have d1:=dc 1 _ rfl;have d2:=dc 2 _ rfl;have d3:=dc 3 _ rfl;have d4:=dc 4 _ rfl;rw[Nat.add_zero] at d0;obtain⟨xa,xc,rfl⟩:=aV hxs.1;obtain⟨wf,hwf⟩:∃wf,wf=wr.alloc (.cells #[.int .i64 x.kind,.int .i64 x.n,.string x.fact.1,.slice xa x.fact.2.length xc,.string x.text] 72):=⟨_,rfl⟩;have hLf:Later wr wf:=by rw[hwf];exact(Later.refl wr).alloc _
   have hRf:wf.heap[wr.heap.size]?=some (.cells #[.int .i64 x.kind,.int .i64 x.n,.string x.fact.1,.slice xa x.fact.2.length xc,.string x.text] 72 (0,0)):=by rw[hwf];exact heap_alloc_new wr _
   have hSf:=HS.out.later hLf.below;have a0:wf.cell? ⟨ob,oo+j*8,none⟩=some (.int .i64 y.err):=by rw[hSf.below.cell (p:=⟨ob,oo+j*8,none⟩) hob];exact hco 0 _ rfl
   obtain⟨g0,g1,g2,g3,g4,_,_⟩:=dJ hRf;have g1':wf.cell? ⟨wr.heap.size,0+1,none⟩=some (.int .i64 x.n):=g1;have g2':wf.cell? ⟨wr.heap.size,0+2,none⟩=some (.string x.fact.1):=g2;have g3':wf.cell? ⟨wr.heap.size,0+3,none⟩=some (.slice xa x.fact.2.length xc):=g3;have g4':wf.cell? ⟨wr.heap.size,0+4,none⟩=some (.string x.text):=g4;have hbo:(j:Int)<(on:Int):=by
    obtain⟨_,_,e⟩:=Kind.slice HA3.out;simp only[Value.slice.injEq] at e;omega
   have hstep:jK (l.take (j+1)) (A.take (j+1))=jK (l.take j) (A.take j)++if y.err=0∧x.kind≠5∧x.kind≠6 then[x] else[]:=by
    rw[List.take_add_one,List.take_add_one,hx,hy];exact xq x y _ _ (by rw[List.length_take,List.length_take,hal])
   have HWf:=hide hwf;have HSf:=hide hSf;have KC:=hide hstep;have hSx:vG (fun k=>(Value.slice va vn vc).ownBlock≠some k) wf (.slice xa x.fact.2.length xc) x.fact.2:=⟨hxs.1.below (aj hBr hLf.below hBr.size),fun k hne e e'=>by
    have h1:=hxs.1.block_lt hne k e;have h2:=hSf.far k e';have h3:=HB3.out.size;omega⟩
   have hgl:(jK (l.take j) (A.take j)).length≤1000:=Nat.le_trans (uN _ _) (by rw[List.length_take];omega);obtain⟨a5,n5,c5,w5,hrun,hD5⟩:=hSf.more hgl hSx;have HRn:=hide hrun;have HD5:=hide hD5;clear hstep hwf hLf hRf hSf hSx hgl hrun hD5 dc hc hco hx hy hxs hBr HS hal
   by_cases he:y.err=0
   ·rw[he] at a0
    by_cases h5:x.kind=5
    ·have h5b:(x.kind != 5)=false:=by simp[h5]
     have HN:Hid (vH w3 wf (.slice va vn vc) (jK (l.take (j+1)) (A.take (j+1)))):=by rw[KC.out,if_neg (by simp[h5]),List.append_nil];exact HSf
     clear h5 he
     go_wp2_with (first|(rw[←HWf.out])|fail)
     go_roundg (l.length- (j+1))
     case measure=>omega
     case rel=>exact⟨j+1,by omega,by go_num,HN⟩
    ·have h5b:(x.kind != 5)=true:=by simp[h5]
     by_cases h6:x.kind=6
     ·have h6b:(x.kind != 6)=false:=by simp[h6]
      have HN:Hid (vH w3 wf (.slice va vn vc) (jK (l.take (j+1)) (A.take (j+1)))):=by rw[KC.out,if_neg (by simp[h6]),List.append_nil];exact HSf
      clear h6 h5 he
      go_wp2_with (first|(rw[←HWf.out])|fail)
      go_roundg (l.length- (j+1))
      case measure=>omega
      case rel=>exact⟨j+1,by omega,by go_num,HN⟩
     ·have h6b:(x.kind != 6)=true:=by simp[h6]
      have HN:Hid (vH w3 w5 (.slice a5 n5 c5) (jK (l.take (j+1)) (A.take (j+1)))):=by rw[KC.out,if_pos ⟨he,h5,h6⟩];exact HD5
      clear h6 h5 he
      go_wp2_with (first|(rw[←HWf.out])|(at_builtin;refine wpList_append_run rfl (.tmp 49) (.tmp 51) 49 rfl _ _ _ _ rfl rfl HRn.out ?_)|fail)
      go_roundg (l.length- (j+1))
      case measure=>omega
      case rel=>exact⟨j+1,by omega,by go_num,HN⟩
   ·have heb:(y.err==0)=false:=beq_eq_false_iff_ne.2 he;have HN:Hid (vH w3 wf (.slice va vn vc) (jK (l.take (j+1)) (A.take (j+1)))):=by rw[KC.out,if_neg (by simp[he]),List.append_nil];exact HSf
    clear he
    go_wp2_with (first|(rw[←HWf.out])|fail)
    go_roundg (l.length- (j+1))
    case measure=>omega
    case rel=>exact⟨j+1,by omega,by go_num,HN⟩
  ·obtain rfl:j=l.length:=by omega
   have hal:=HAl.out;have HSg:Hid (vH w3 wr (.slice va vn vc) G):=by
    have:=HS.out;rw[List.take_length,←hal,List.take_length,←HG.out] at this;exact this
   have hnz:¬(l.length:Int)<(l.length:Int):=by omega
   have hBr:=aj HB3.out HSg.out.below HB3.out.size;have hpc:=M8 φ G _ wr (HSg.out.sl (by omega)) m (HM.out wr hBr).1 (HM.out wr hBr).2 (fun _ _ _=>HΦ.out);rw[HPg.out] at hpc;have HPc:=hide hpc;have HBr:=hide hBr;clear hpc hBr HS hal HPg HG
   go_wp2_with fail
   refine HPc.out.mono ?_;rintro e w4 ⟨dv,ov,rfl,hDV,hAV,hB4⟩;obtain⟨ya1,yc1,ya2,yc2,ya3,yc3,ya4,yc4,ya5,yc5,rfl,_⟩:=hDV.slices;obtain⟨pa,pc,rfl⟩:=Kind.slice hAV;obtain⟨w5,hw5⟩:∃w5,w5=w4.alloc (.cells #[.slice ya1 D'.told.length yc1,.slice ya2 D'.rules.length yc2,.bool D'.running,.slice ya3 D'.run.known.length yc3,.slice ya4 D'.run.fresh.length yc4,.int .i64 D'.run.level,.int .i64 D'.run.rounds,.bool D'.run.done,.slice ya5 D'.saved.length yc5] 56):=⟨_,rfl⟩;have hL5:Later w4 w5:=by rw[hw5];exact(Later.refl _).alloc _
   have hr5:w5.heap[w4.heap.size]?=some (.cells #[.slice ya1 D'.told.length yc1,.slice ya2 D'.rules.length yc2,.bool D'.running,.slice ya3 D'.run.known.length yc3,.slice ya4 D'.run.fresh.length yc4,.int .i64 D'.run.level,.int .i64 D'.run.rounds,.bool D'.run.done,.slice ya5 D'.saved.length yc5] 56 (0,0)):=by rw[hw5];exact heap_alloc_new _ _
   have AX:Below w3.heap.size w3 w5:=aj (aj HSg.out.below hB4 HSg.out.below.size) hL5.below (Nat.le_trans HSg.out.below.size hB4.size);have HB5:Hid (Below w.heap.size w w5):=aj HB3.out AX HB3.out.size;have HD5:=hide (hDV.below hL5.below);have Wq:=hide (HD3.out.below AX);have HA5:=hide (Kind.aN (Kind.bW hAV) hL5);have P9:=hide hr5;have LB:Hid (w5.heap[w2.heap.size]?=_):=(AX.block _ (Array.getElem?_eq_some_iff.1 BD.out).1).trans BD.out;have HW5:=hide hw5;clear hDV hAV hB4 hw5 hL5 hr5 AX HPc HSg HBr HD3 BD HB3
   go_wp2_with (first|(rw[←HW5.out])|fail)
   clear HW5
   go_loopg [62] A'.length (fun q i wr=>∃j:Nat,j+q=A'.length∧i=.int .i64 j∧Hid (Below w5.heap.size w5 wr))
   case atStart=>exact⟨0,by omega,rfl,Below.refl _ _⟩
   case round=>
    obtain⟨j,hj,rfl,HBw⟩:=hrel
    by_cases hlt:j<A'.length
    ·have hltz:(j:Int)<(A'.length:Int):=by omega
     obtain⟨y,hy⟩:∃y,A'[j]?=some y:=⟨_,List.getElem?_eq_getElem hlt⟩;have hye:=HA'.out y (List.mem_of_getElem? hy);obtain⟨ob,oo,_,e2,hob,⟨bv,sv,kv,rfl,hbv,hsv,hkv⟩,hco⟩:=Kind.dY HA5.out hy;subst e2;obtain⟨ba,bc,rfl⟩:=Kind.slice hbv;obtain⟨sa,sc,rfl⟩:=Kind.slice hsv;obtain⟨ka,kc,rfl⟩:=Kind.slice hkv;have dc:∀i u,[.int .i64 y.err,.int .i64 y.place,.int .i64 y.n,.slice ba y.binds.length bc,.string y.prf.fact.1,.slice sa y.prf.fact.2.length sc,.int .i64 y.prf.rule,.slice ka y.prf.kids.length kc][i]?=some u→wr.cell? ⟨ob,oo+j*8+i,none⟩=some u:=fun i u hu=>by
      rw[HBw.out.cell (p:=⟨ob,oo+j*8+i,none⟩) hob];exact hco i u hu
     have d0:=dc 0 _ rfl;have d1:=dc 1 _ rfl;have d2:=dc 2 _ rfl;have d3:=dc 3 _ rfl;have d4:=dc 4 _ rfl;have d5:=dc 5 _ rfl;have d6:=dc 6 _ rfl;have d7:=dc 7 _ rfl;rw[Nat.add_zero,hye] at d0;obtain⟨wf,hwf⟩:∃wf,wf=wr.alloc (.cells #[.int .i64 0,.int .i64 y.place,.int .i64 y.n,.slice ba y.binds.length bc,.string y.prf.fact.1,.slice sa y.prf.fact.2.length sc,.int .i64 y.prf.rule,.slice ka y.prf.kids.length kc] 64):=⟨_,rfl⟩;have hLf:Later wr wf:=by rw[hwf];exact(Later.refl wr).alloc _
     have hRf:wf.heap[wr.heap.size]?=some (.cells #[.int .i64 0,.int .i64 y.place,.int .i64 y.n,.slice ba y.binds.length bc,.string y.prf.fact.1,.slice sa y.prf.fact.2.length sc,.int .i64 y.prf.rule,.slice ka y.prf.kids.length kc] 64 (0,0)):=by rw[hwf];exact heap_alloc_new wr _
     obtain⟨⟨g0,_⟩,_,_⟩:=gD hRf;have HBf:=hide (aj HBw.out hLf.below HBw.out.size);have HWf:=hide hwf;clear hye hy hbv hsv hkv hco dc hwf hLf hRf
     go_wp2_with (first|(rw[←HWf.out])|fail)
     go_roundg (A'.length- (j+1))
     case measure=>omega
     case rel=>exact⟨j+1,by omega,by go_num,HBf⟩
    ·have hltz:¬(j:Int)<(A'.length:Int):=by omega
     have s1:wr.heap[w2.heap.size]?=_:=(HBw.out.block _ (Array.getElem?_eq_some_iff.1 LB.out).1).trans LB.out;have s2:wr.heap[w4.heap.size]?=_:=(HBw.out.block _ (Array.getElem?_eq_some_iff.1 P9.out).1).trans P9.out;obtain⟨⟨c0,c1,c2,c3,c4,c5,c6,c7,c8⟩,_,_⟩:=iX s1;obtain⟨⟨d0,d1,d2,d3,d4,d5,d6,d7,d8⟩,_,_⟩:=iX s2;have HSd:=hide (KA D' _ _ wr (Wq.out.below HBw.out) (HD5.out.below HBw.out));have HBe:=hide (aj HB5.out HBw.out HB5.out.size);clear s1 s2
     go_wp2_with fail
     refine HSd.out.mono ?_;rintro e wz ⟨rfl,hLz⟩;have HBz:=hide (aj HBe.out hLz.below HBe.out.size);clear c0 c1 c2 c3 c4 c5 c6 c7 c8 d0 d1 d2 d3 d4 d5 d6 d7 d8 hLz HSd;go_wp2;go_ret;exact⟨rfl,HBz.out⟩
end Go.Proofs.YtafmbokfkbccaaaGreatDoor
namespace Go.Proofs.YtafmbokfkbccaaaGreatDoor
def aT (p:List aB) (ss:List Nat) (n:Int):Nat→List au→Int×List (List au)
 |0,_=>(0,[])
 |k+1,l=>if(fu p ss n l).1≠0 then((fu p ss n l).1,[]) else if(fu p ss n l).2.length=l.length then(0,[(fu p ss n l).2])
  else((aT p ss n k (fu p ss n l).2).1,(fu p ss n l).2::(aT p ss n k (fu p ss n l).2).2)
def bE (l:List au) (ps:List (List au)):List au:=ps.getLast?.getD l
theorem gU (l m:List au) (ps:List (List au)):bE l (m::ps)=bE m ps:=by
 unfold bE;cases ps with
 |nil=>rfl
 |cons a ps=>rw[List.getLast?_cons_cons];rw[List.getLast?_cons];rfl
theorem gM (l:List au) (ps qs:List (List au)):bE l (ps++qs)=bE (bE l ps) qs:=by
 induction ps generalizing l with
 |nil=>rfl
 |cons a ps ih=>rw[List.cons_append,gU,gU,ih]
def bF (p:List aB) (ss:List Nat):Nat→Nat→List au→Int×List (List au)
 |0,_,_=>(0,[])
 |c+1,n,l=>if(aT p ss n 201 l).1≠0 then((aT p ss n 201 l).1,[])
  else((bF p ss c (n+1) (bE l (aT p ss n 201 l).2)).1,(aT p ss n 201 l).2++(bF p ss c (n+1) (bE l (aT p ss n 201 l).2)).2)
theorem Bd (p:List aB) (ss:List Nat) (n:Int):∀(k:Nat) (l:List au),(jo p ss n k l).1=(aT p ss n k l).1∧((aT p ss n k l).1=0→jo p ss n k l=(0,bE l (aT p ss n k l).2))
 |0,l=>⟨rfl,fun _=>rfl⟩
 |k+1,l=>by
  unfold jo aT
  by_cases h0:(fu p ss n l).1=0
  ·have h0':¬(fu p ss n l).1≠0:=fun h=>h h0;simp only[if_neg h0']
   by_cases h1:(fu p ss n l).2.length=l.length
   ·simp only[if_pos h1];exact⟨trivial,fun _=>rfl⟩
   ·simp only[if_neg h1];obtain⟨h2,h3⟩:=Bd p ss n k (fu p ss n l).2;exact⟨h2,fun h=>by rw[h3 h,gU]⟩
  ·have h0':(fu p ss n l).1≠0:=h0;simp only[if_pos h0'];exact⟨trivial,fun h=>absurd h h0⟩
theorem yT (p:List aB) (ss:List Nat):∀(c n:Nat) (l:List au),(oO p ss c n l).1=(bF p ss c n l).1∧((bF p ss c n l).1=0→oO p ss c n l=(0,bE l (bF p ss c n l).2))
 |0,n,l=>⟨rfl,fun _=>rfl⟩
 |c+1,n,l=>by
  obtain⟨o1,o2⟩:=Bd p ss n 201 l;unfold oO bF
  by_cases h0:(aT p ss n 201 l).1=0
  ·have o3:=o2 h0;have h1:¬(jo p ss n 201 l).1≠0:=fun h=>h (o1.trans h0);have h2:¬(aT p ss n 201 l).1≠0:=fun h=>h h0;simp only[if_neg h1,if_neg h2];rw[o3];obtain⟨h2,h3⟩:=yT p ss c (n+1) (bE l (aT p ss n 201 l).2);exact⟨h2,fun h=>by rw[h3 h,gM]⟩
  ·have h1:(jo p ss n 201 l).1≠0:=fun h=>h0 (o1.symm.trans h);have h2:(aT p ss n 201 l).1≠0:=h0;simp only[if_pos h1,if_pos h2];exact⟨o1,fun h=>absurd h h0⟩
def dM (b:List aD) (t:dD):dD:=if t.1 then(match dV b (bs t.2) with|some s=>(false,raw s)|none=>t) else t
def eZ (b:List aD) (a:aF):aF:=⟨a.no,a.name,a.terms.map (dM b)⟩
def eO (b:List aD) (body:List aF):List aF:=body.map (eZ b)
def fO (body:List aF) (l:List aD):List au:=body.filterMap fun a=>if a.no then none else aW a l
def qY (body:List aF) (all:List au) (er:Int):List (List aD):=if er≠0 then[] else(lY (fun _=>all) body).getD []
def byP (err:List aF→Int) (all old:List au) (r:aB) (f:au):Option (List au):=match fK r.head f [] with
 |none=>none
 |some b=>((qY (eO b r.body) all (err (eO b r.body))).map (fO (eO b r.body))).find? fun of=>of.all (inB old)
def iC (ps:List (List au)) (f:au):Nat:=ps.findIdx fun l=>inB l f
def jQ (g:aB→Option (List au)):Nat→List aB→Int×List au
 |_,[]=>(-1,[])
 |i,r::p=>match g r with
  |some of=>(i,of)
  |none=>jQ g (i+1) p
def qZ (err:List aF→Int) (p:List aB) (told all:List au) (ps:List (List au)) (f:au):Int×List au:=
 if inB told f then(-1,[]) else jQ (fun r=>byP err all (ps.getD (iC ps f-1) []) r f) 0 p
def lS (g:au→Nat×Nat→Option iU×(Nat×Nat)):List au→Nat×Nat→Option (List iU)×(Nat×Nat)
 |[],s=>(some [],s)
 |f::fs,s=>match(g f s).1 with
  |none=>(none,(g f s).2)
  |some k=>match(lS g fs (g f s).2).1 with
   |none=>(none,(lS g fs (g f s).2).2)
   |some ks=>(some (k::ks),(lS g fs (g f s).2).2)
def cZ (how:au→Int×List au):Nat→au→Nat→Nat×Nat→Option iU×(Nat×Nat)
 |0,_,_,s=>(none,s)
 |n+1,f,d,s=>if AJ (s.1+1,max s.2 d) then(none,(s.1+1,max s.2 d))
  else match(lS (fun g s=>cZ how n g (d+1) s) (how f).2 (s.1+1,max s.2 d)).1 with
   |none=>(none,(lS (fun g s=>cZ how n g (d+1) s) (how f).2 (s.1+1,max s.2 d)).2)
   |some ks=>(some (.mk f (how f).1 ks),(lS (fun g s=>cZ how n g (d+1) s) (how f).2 (s.1+1,max s.2 d)).2)
end Go.Proofs.YtafmbokfkbccaaaGreatDoor
namespace Go.Proofs.YtafmbokfkbccaaaGreatDoor
theorem kC {α β:Type} {g h:α→Option β}:∀{l:List α},(∀x∈l,g x=h x)→l.filterMap g=l.filterMap h
 |[],_=>rfl
 |a::l,e=>by
  rw[List.filterMap_cons,List.filterMap_cons,e a (by simp),kC fun x hx=>e x (by simp[hx])]
theorem CV (b l:List aD) (t:dD):bg l (dM b t)=bg (b++l) t:=by
 unfold dM;obtain⟨v,n⟩:=t;cases v with
 |false=>simp[bg]
 |true=>
  simp only[if_true];unfold bg;rw[fJ];cases dV b (bs n) with
  |none=>rfl
  |some s=>simp[kE]
theorem nL (b l:List aD):∀ts:List dD,aO l (ts.map (dM b))=aO (b++l) ts
 |[]=>rfl
 |t::ts=>by
  rw[List.map_cons];unfold aO;rw[CV,nL b l ts]
theorem qI (b l:List aD) (a:aF):aW (eZ b a) l=aW a (b++l):=by
 unfold aW eZ;rw[nL]
theorem mJ {G:List aD}:∀(ts:List dD) (xs:List ByteArray) (c:List aD),(∀v s,dV c v=some s→dV G v=some s)→aO G ts=some xs→
  ∃m,eH c ts xs=some m∧∀v s,dV m v=some s→dV G v=some s
 |[],xs,c,h,_=>⟨c,rfl,h⟩
 |t::ts,xs,c,h,hf=>by
  unfold aO at hf;cases hw:bg G t with
  |none=>rw[hw] at hf;cases hf
  |some x=>
   rw[hw] at hf;dsimp only at hf;cases hr:aO G ts with
   |none=>rw[hr] at hf;cases hf
   |some r=>
    rw[hr] at hf;cases hf;unfold eH;cases hc:bg c t with
    |none=>
     refine mJ ts r (c++[(bs t.2,x)]) (fun v s hv=> ?_) hr;rw[fJ] at hv;cases hg:dV c v with
     |some u=>rw[hg] at hv;cases hv;exact h v _ hg
     |none=>
      rw[hg] at hv;dsimp only at hv;unfold dV at hv;split at hv
      ·rename_i e;cases hv;dsimp only at e;subst e;unfold bg at hw hc;cases ht:t.1 with
       |true=>rw[ht] at hw;simpa using hw
       |false=>rw[ht] at hc;simp at hc
      ·cases hv
    |some s=>
     have e:s=x:=by
      unfold bg at hw hc;cases ht:t.1 with
      |true=>
       rw[ht] at hw hc;simp only[if_true] at hw hc;have:=h _ _ hc;rw[hw] at this;exact(Option.some.inj this).symm
      |false=>
       rw[ht] at hw hc;simp only[Bool.false_eq_true,if_false] at hw hc;exact Option.some.inj (hc.symm.trans hw)
     dsimp only;rw[if_pos e];exact mJ ts r c h hr
theorem xu {G c:List aD} {a:aF} {f:au} (h:∀v s,dV c v=some s→dV G v=some s) (hf:aW a G=some f):∃m,fK a f c=some m∧∀v s,dV m v=some s→dV G v=some s:=by
 obtain⟨h1,h2⟩:=jO hf;obtain⟨m,hm,hm2⟩:=mJ a.terms f.2 c h h2;exact⟨m,by unfold fK;rw[if_pos ⟨h1.symm,(jX h2).symm⟩,hm],hm2⟩
theorem qJ {G:List aD}:∀(body:List aF) (c:List aD),(∀v s,dV c v=some s→dV G v=some s)→(∀a∈body,∃k,aW a G=some k)→
  ∃b',lM body (body.filterMap fun a=>if a.no then none else aW a G) c=(0,b')∧∀v s,dV b' v=some s→dV G v=some s
 |[],c,h,_=>⟨c,rfl,h⟩
 |a::body,c,h,hf=>by
  obtain⟨k,hk⟩:=hf a (by simp);cases hno:a.no with
  |true=>
   have e:((a::body).filterMap fun a=>if a.no then none else aW a G)=body.filterMap fun a=>if a.no then none else aW a G:=List.filterMap_cons_none (by simp[hno]);rw[e];unfold lM;rw[if_pos hno];exact qJ body c h fun x hx=>hf x (by simp[hx])
  |false=>
   have e:((a::body).filterMap fun a=>if a.no then none else aW a G)=k::body.filterMap fun a=>if a.no then none else aW a G:=List.filterMap_cons_some (by simp[hno,hk]);rw[e];obtain⟨m,hm,hm2⟩:=xu h hk;unfold lM;rw[if_neg (by simp[hno])];dsimp only;rw[hm];exact qJ body m hm2 fun x hx=>hf x (by simp[hx])
theorem Bf (b l:List aD) (body:List aF):fO (eO b body) l=body.filterMap fun a=>if a.no then none else aW a (b++l):=by
 unfold fO eO;rw[List.filterMap_map];refine kC fun a _=> ?_;show(if a.no then none else aW (eZ b a) l)=_;rw[qI]
theorem Np {all:List au} {r:aB} {f:au} {b l:List aD} (hR:lZ r) (hm:fK r.head f []=some b) (hso:∀a∈r.body,∃g,aW a (b++l)=some g∧inB all g= !a.no):Fw all r f (fO (eO b r.body) l)=0:=by
 obtain⟨_,hk0,_⟩:=oJ (K:=[]) rfl hm;obtain⟨b',hb',hag⟩:=qJ (G:=b++l) r.body b (fun v s h=>by rw[fJ,h]) fun a ha=>by obtain⟨g,hg,_⟩:=hso a ha;exact⟨g,hg⟩
 rw[←Bf] at hb';obtain⟨_,hkb,_⟩:=uD hk0 hb';unfold Fw;rw[hm];dsimp only;rw[hb'];dsimp only;rw[if_neg (by simp)];refine MS fun a ha hno=> ?_;obtain⟨g,hg,hi⟩:=hso a ha;refine⟨g,?_,by rw[hi,hno];rfl⟩;rw[←hg];refine lg fun t ht ht1=> ?_;have hc:=dW hR a ha t ht ht1;have hkey:bs t.2∈bR b':=by
  rw[hkb];refine fC.2 ((iB r.body).2 (Or.inr ?_));rcases(iB r.body).1 hc with h1|h1
  ·cases h1
  ·exact h1
 obtain⟨s,hs⟩:=kZ hkey;rw[hs,hag _ _ hs]
def rest (b l:List aD):List aD:=l.filter fun x=>(dV b x.1).isNone
def agree (b l:List aD):Bool:=l.all fun x=>match dV b x.1 with|none=>true|some s=>decide (s=x.2)
theorem D5 {b l:List aD} {v:ByteArray} (h:dV b v=none):dV (rest b l) v=dV l v:=by
 unfold rest
 induction l with
 |nil=>rfl
 |cons x l ih=>
  rw[List.filter_cons]
  by_cases e:x.1=v
  ·have:(dV b x.1).isNone=true:=by rw[e,h];rfl
   rw[if_pos this];simp[dV,e]
  ·cases hx:(dV b x.1).isNone with
   |true=>rw[if_pos rfl];simp only[dV,if_neg e,ih]
   |false=>rw[if_neg (by simp)];simp only[dV,if_neg e,ih]
theorem IW {b l:List aD} (h:agree b l=true) {v s u:ByteArray} (hb:dV b v=some s) (hl:dV l v=some u):u=s:=by
 have:=List.all_eq_true.1 h _ (rV hl);dsimp only at this;rw[hb] at this;exact(of_decide_eq_true this).symm
theorem mK {b l:List aD} {x:aD}:agree b (l++[x])=(agree b l&&(match dV b x.1 with|none=>true|some s=>decide (s=x.2))):=by
 unfold agree;rw[List.all_append];simp
theorem mV:∀(ts:List dD) (xs:List ByteArray) (l m:List aD),eH l ts xs=some m→∃r,m=l++r
 |[],_,l,m,h=>⟨[],by cases h;simp⟩
 |_::_,[],l,m,h=>by cases h
 |t::ts,x::xs,l,m,h=>by
  unfold eH at h;split at h
  ·obtain⟨r,e⟩:=mV ts xs _ m h;exact⟨(bs t.2,x)::r,by rw[e];simp⟩
  ·split at h
   ·exact mV ts xs l m h
   ·cases h
theorem Bg {b l m:List aD} (h:agree b l=false) (e:∃r,m=l++r):agree b m=false:=by
 obtain⟨r,rfl⟩:=e;unfold agree at*;rw[List.all_append,h];rfl
def pass (b:List aD):Option (List aD)→Option (List aD)
 |none=>none
 |some m=>if agree b m then some (rest b m) else none
theorem IX {b:List aD} {o:Option (List aD)} (h:∀m,o=some m→agree b m=false):pass b o=none:=by
 cases o with
 |none=>rfl
 |some m=>
  show(if agree b m=true then some (rest b m) else none)=none;rw[if_neg (by rw[h m rfl];simp)]
theorem iF (b:List aD):∀(ts:List dD) (xs:List ByteArray) (l:List aD),agree b l=true→eH (rest b l) (ts.map (dM b)) xs=pass b (eH l ts xs)
 |[],xs,l,h=>by
  show some (rest b l)=(if agree b l=true then some (rest b l) else none);rw[if_pos h]
 |t::ts,[],l,h=>rfl
 |t::ts,x::xs,l,h=>by
  rw[List.map_cons];unfold eH;obtain⟨v,n⟩:=t;cases v with
  |false=>
   have e1:dM b (false,n)=(false,n):=by simp[dM]
   have e2:∀q:List aD,bg q (false,n)=some (bs n):=fun q=>by simp[bg]
   rw[e1,e2,e2];dsimp only
   by_cases hx:bs n=x
   ·rw[if_pos hx,if_pos hx];exact iF b ts xs l h
   ·rw[if_neg hx,if_neg hx];rfl
  |true=>
   cases hb:dV b (bs n) with
   |some s=>
    have e1:dM b (true,n)=(false,raw s):=by simp[dM,hb]
    have e2:∀q:List aD,bg q (false,raw s)=some s:=fun q=>by simp[bg,kE]
    have e3:∀q:List aD,bg q (true,n)=dV q (bs n):=fun q=>by simp[bg]
    rw[e1,e2,e3];dsimp only;cases hl:dV l (bs n) with
    |some u=>
     have:=IW h hb hl;subst this;dsimp only
     by_cases hx:u=x
     ·rw[if_pos hx,if_pos hx];exact iF b ts xs l h
     ·rw[if_neg hx,if_neg hx];rfl
    |none=>
     dsimp only
     by_cases hx:s=x
     ·subst hx;rw[if_pos rfl];have h2:agree b (l++[(bs n,s)])=true:=by rw[mK,h];simp[hb]
      have h3:rest b (l++[(bs n,s)])=rest b l:=by unfold rest;rw[List.filter_append];simp[hb]
      rw[←h3];exact iF b ts xs _ h2
     ·rw[if_neg hx];have h2:agree b (l++[(bs n,x)])=false:=by rw[mK,h];simp[hb,hx]
      exact(IX fun m hm=>Bg h2 (mV _ _ _ _ hm)).symm
   |none=>
    have e1:dM b (true,n)=(true,n):=by simp[dM,hb]
    have e3:∀q:List aD,bg q (true,n)=dV q (bs n):=fun q=>by simp[bg]
    rw[e1,e3,e3,D5 hb];cases hl:dV l (bs n) with
    |some u=>
     dsimp only
     by_cases hx:u=x
     ·rw[if_pos hx,if_pos hx];exact iF b ts xs l h
     ·rw[if_neg hx,if_neg hx];rfl
    |none=>
     dsimp only;have h2:agree b (l++[(bs n,x)])=true:=by rw[mK,h];simp[hb]
     have h3:rest b (l++[(bs n,x)])=rest b l++[(bs n,x)]:=by unfold rest;rw[List.filter_append];simp[hb]
     rw[←h3];exact iF b ts xs _ h2
theorem CW (b:List aD) {a:aF} {f:au} {l:List aD} (h:agree b l=true):fK (eZ b a) f (rest b l)=pass b (fK a f l):=by
 unfold fK eZ;dsimp only;rw[List.length_map];split
 ·exact iF b a.terms f.2 l h
 ·rfl
def passes (b:List aD) (ls:List (List aD)):List (List aD):=(ls.filter (agree b)).map (rest b)
theorem rR (b:List aD) (fs:List au) (g:au→Option (List aD)):passes b (fs.filterMap g)=fs.filterMap fun f=>pass b (g f):=by
 unfold passes
 induction fs with
 |nil=>rfl
 |cons f fs ih=>
  cases hg:g f with
  |none=>rw[List.filterMap_cons_none hg,List.filterMap_cons_none (by simp[hg,pass])];exact ih
  |some m=>
   rw[List.filterMap_cons_some hg,List.filter_cons];cases ha:agree b m with
   |true=>rw[if_pos rfl,List.map_cons,List.filterMap_cons_some (b:=rest b m) (by simp[hg,pass,ha]),ih]
   |false=>rw[if_neg (by simp),List.filterMap_cons_none (by simp[hg,pass,ha]),ih]
theorem pR (b:List aD) (a:aF) (fs:List au):∀ls:List (List aD),aS (eZ b a) fs (passes b ls)=passes b (aS a fs ls)
 |[]=>rfl
 |l::ls=>by
  have ih:=pR b a fs ls;unfold aS at ih⊢;have e:passes b ((l::ls).flatMap fun l=>fs.filterMap fun f=>fK a f l)=passes b (fs.filterMap fun f=>fK a f l)++passes b (ls.flatMap fun l=>fs.filterMap fun f=>fK a f l):=by
   rw[List.flatMap_cons];unfold passes;rw[List.filter_append,List.map_append]
  rw[e,←ih,rR];cases ha:agree b l with
  |true=>
   have e2:passes b (l::ls)=rest b l::passes b ls:=by unfold passes;rw[List.filter_cons,if_pos ha,List.map_cons]
   rw[e2,List.flatMap_cons]
   congr 1
   exact kC fun f _=>CW b ha
  |false=>
   have e2:passes b (l::ls)=passes b ls:=by unfold passes;rw[List.filter_cons,if_neg (by simp[ha])]
   rw[e2];have e3:(fs.filterMap fun f=>pass b (fK a f l))=[]:=by
    rw[List.filterMap_eq_nil_iff];intro f _;refine IX fun m hm=>Bg ha ?_;unfold fK at hm;split at hm
    ·exact mV _ _ _ _ hm
    ·cases hm
   rw[e3,List.nil_append]
theorem uO (b:List aD) (fs:List au):∀(body:List aF) (n:Nat) (ls ms:List (List aD)),fG (fun _=>fs) n body ls=some ms→fG (fun _=>fs) n (eO b body) (passes b ls)=some (passes b ms)
 |[],n,ls,ms,h=>by cases h;rfl
 |a::body,n,ls,ms,h=>by
  show fG _ n (eZ b a::eO b body) _=_;unfold fG at h⊢;rw[show(eZ b a).no=a.no from rfl];cases hno:a.no with
  |true=>
   rw[hno] at h;simp only[if_true] at h⊢;exact uO b fs body (n+1) ls ms h
  |false=>
   rw[hno] at h;simp only[Bool.false_eq_true,if_false] at h⊢;split at h
   ·cases h
   ·rename_i hlen;have hle:(passes b (aS a fs ls)).length≤(aS a fs ls).length:=by
     unfold passes;rw[List.length_map];exact List.length_filter_le _ _
    rw[pR,if_neg (by omega)];exact uO b fs body (n+1) _ ms h
theorem IY {b:List aD} {fs:List au} {body:List aF} (h:fG (fun _=>fs) 0 body [[]]≠none):∃R,lY (fun _=>fs) (eO b body)=some R:=by
 cases e:fG (fun _=>fs) 0 body [[]] with
 |none=>exact absurd e h
 |some ms=>
  have:=uO b fs body 0 [[]] ms e;have e2:passes b [[]]=[[]]:=rfl;rw[e2] at this;unfold lY;rw[this];exact⟨_,rfl⟩
end Go.Proofs.YtafmbokfkbccaaaGreatDoor
namespace Go.Proofs.YtafmbokfkbccaaaGreatDoor
def Steps (Q:List au→List au→Prop):List au→List (List au)→Prop
 |_,[]=>True
 |L,M::ps=>Q L M∧Steps Q M ps
theorem Steps.append {Q:List au→List au→Prop}:∀{ps qs:List (List au)} {L:List au},Steps Q L ps→Steps Q (bE L ps) qs→Steps Q L (ps++qs)
 |[],_,_,_,h=>h
 |M::ps,qs,L,h,h2=>⟨h.1,Steps.append h.2 (by rw[gU] at h2;exact h2)⟩
theorem FN {r:aB} (hR:lZ r) {L x:List au} (h:gZ r L=some x) {f:au} (hf:f∈x):f.1=bs r.head.name:=by
 obtain⟨env,_,he⟩:=(jN (dW hR) h f).1 hf;exact(jO he).1
theorem kV {p:List aB} (hp:dB p) (σ:aB→Nat) {n:Int}:∀(k:Nat) {L:List au} {ps:List (List au)},GoodS p L→aT p (p.map σ) n k L=(0,ps)→200<L.length+k→
  GoodS p (bE L ps)∧(∀f∈L,f∈bE L ps)∧(∀f∈bE L ps,f∉L→∃r∈p,(σ r:Int)=n∧f.1=bs r.head.name)∧fu p (p.map σ) n (bE L ps)=(0,bE L ps)
 |0,L,ps,hL,_,hk=>by have:=hL.few;omega
 |k+1,L,ps,hL,h,hk=>by
  unfold aT at h;obtain⟨e,x,hx⟩:∃e x,fu p (p.map σ) n L=(e,x):=⟨_,_,rfl⟩;rw[hx] at h;dsimp only at h;split at h
  ·rename_i he;simp at h;exact absurd h.1 he
  ·rename_i he;have he:e=0:=by simpa using he
   subst he;obtain⟨g1,g2⟩:=mg hp σ hL hx;obtain⟨_,_,o3,_,_⟩:=jq σ hx;have hnew:∀f∈x,f∉L→∃r∈p,(σ r:Int)=n∧f.1=bs r.head.name:=fun f hf hn=>by
    rcases o3 f hf with h1|⟨r,hr,h1,y,hy,hfy⟩
    ·exact absurd h1 hn
    ·exact⟨r,hr,h1,FN (hp.rules r hr) hy hfy⟩
   split at h
   ·rename_i hlen;have e:L=x:=BZ hL.up g1.up g2 (by omega);simp at h;subst h;rw[gU];show GoodS p x∧(∀f∈L,f∈x)∧(∀f∈x,f∉L→_)∧fu p (p.map σ) n x=(0,x);exact⟨g1,g2,hnew,by rw[←e] at hx⊢;exact hx⟩
   ·rename_i hlen;have hle:=sJ hL.up g2;obtain⟨e2,qs,hq⟩:∃e qs,aT p (p.map σ) n k x=(e,qs):=⟨_,_,rfl⟩;rw[hq] at h;simp only[Prod.mk.injEq] at h;obtain⟨rfl,rfl⟩:=h;obtain⟨a1,a2,a3,a4⟩:=kV hp σ k g1 hq (by omega);rw[gU];refine⟨a1,fun f hf=>a2 f (g2 f hf),fun f hf hn=> ?_,a4⟩
    by_cases hfx:f∈x
    ·exact hnew f hfx hn
    ·exact a3 f hf hfx
theorem rX {p:List aB} (hp:dB p) (σ:aB→Nat):∀(c n:Nat) {L:List au} {ps:List (List au)},GoodS p L→bF p (p.map σ) c n L=(0,ps)→
  GoodS p (bE L ps)∧(∀f∈L,f∈bE L ps)∧∀f∈bE L ps,f∉L→∃r∈p,n≤σ r∧f.1=bs r.head.name
 |0,n,L,ps,hL,h=>by
  simp only[bF,Prod.mk.injEq,true_and] at h;subst h;exact⟨hL,fun _ h=>h,fun f hf hn=>absurd hf hn⟩
 |c+1,n,L,ps,hL,h=>by
  unfold bF at h;obtain⟨e,os,ho⟩:∃e os,aT p (p.map σ) n 201 L=(e,os):=⟨_,_,rfl⟩;rw[ho] at h;dsimp only at h;split at h
  ·rename_i he;simp at h;exact absurd h.1 he
  ·rename_i he;have he:e=0:=by simpa using he
   subst he;obtain⟨e2,rs,hr⟩:∃e qs,bF p (p.map σ) c (n+1) (bE L os)=(e,qs):=⟨_,_,rfl⟩;rw[hr] at h;simp only[Prod.mk.injEq] at h;obtain⟨rfl,rfl⟩:=h;obtain⟨a1,a2,a3,_⟩:=kV hp σ 201 hL ho (by omega);obtain⟨b1,b2,b3⟩:=rX hp σ c (n+1) a1 hr;rw[gM];refine⟨b1,fun f hf=>b2 f (a2 f hf),fun f hf hn=> ?_⟩
   by_cases hm:f∈bE L os
   ·obtain⟨r,hr,e,hname⟩:=a3 f hm hn;exact⟨r,hr,by omega,hname⟩
   ·obtain⟨r,hr,e,hname⟩:=b3 f hf hm;exact⟨r,hr,by omega,hname⟩
def Came (p:List aB) (all L M:List au):Prop:=GoodS p L∧(∀f∈L,f∈all)∧
 ∀f∈M,f∉L→∃r∈p,∃env,kL (fun _=>L) r.body env∧aW r.head env=some f∧∀a∈r.body,a.no=true→∀g,aW a env=some g→g∉all
theorem Bh {p:List aB} (hp:dB p) {τ:Bs→Nat} (hτ:Sol p τ) {n:Nat} {all:List au}:∀(k:Nat) {L:List au} {ps:List (List au)},GoodS p L→aT p (p.map fun r=>τ r.head.name) n k L=(0,ps)→200<L.length+k→
  (∀f∈bE L ps,f∈all)→(∀f∈all,f∉L→∃r∈p,n≤τ r.head.name∧f.1=bs r.head.name)→Steps (Came p all) L ps
 |0,L,ps,hL,_,hk,_,_=>by have:=hL.few;omega
 |k+1,L,ps,hL,h,hk,hsub,hall=>by
  have Sw:∀f∈L,f∈all:=fun f hf=>hsub f ((kV hp _ (k+1) hL h hk).2.1 f hf);unfold aT at h;obtain⟨e,x,hx⟩:∃e x,fu p (p.map fun r=>τ r.head.name) n L=(e,x):=⟨_,_,rfl⟩;rw[hx] at h;dsimp only at h;split at h
  ·rename_i he;simp at h;exact absurd h.1 he
  ·rename_i he;have he:e=0:=by simpa using he
   subst he;obtain⟨g1,g2⟩:=mg hp (fun r=>τ r.head.name) hL hx;obtain⟨_,_,o3,_,_⟩:=jq (fun r=>τ r.head.name) hx;have Qa:Came p all L x:=⟨hL,Sw,fun f hf hn=>by
    rcases o3 f hf with h1|⟨r,hr,hrn,y,hy,hfy⟩
    ·exact absurd h1 hn
    ·obtain⟨env,he,jB⟩:=(jN (dW (hp.rules r hr)) hy f).1 hfy;refine⟨r,hr,env,he,jB,fun a ha hno g hg hga=> ?_⟩;obtain⟨g',hg',hi⟩:=jl.1 he.2.2.2 a ha;rw[hg] at hg';cases hg';rw[hno] at hi;have hgl:g∉L:=fun hc=>by rw[bH.2 hc] at hi;cases hi
     obtain⟨q,hq,hqn,IZ⟩:=hall g hga hgl;have e1:a.name=q.head.name:=qL ((jO hg).1.symm.trans IZ);have h2:=hτ r hr a ha ⟨q,hq,e1.symm⟩;have h3:step a=1:=by unfold step;rw[if_pos hno]
     have h4:τ r.head.name=n:=by exact_mod_cast hrn
     rw[e1,h3,h4] at h2;omega⟩
   split at h
   ·simp at h;subst h;exact⟨Qa,trivial⟩
   ·rename_i hlen;have hle:=sJ hL.up g2;obtain⟨e2,qs,hq⟩:∃e qs,aT p (p.map fun r=>τ r.head.name) n k x=(e,qs):=⟨_,_,rfl⟩;rw[hq] at h;simp only[Prod.mk.injEq] at h;obtain⟨rfl,rfl⟩:=h;rw[gU] at hsub;exact⟨Qa,Bh hp hτ k g1 hq (by omega) hsub fun f hf hn=>hall f hf fun hc=>hn (g2 f hc)⟩
theorem D6 {p:List aB} (hp:dB p) {τ:Bs→Nat} (hτ:Sol p τ):∀(c n:Nat) {L:List au} {ps:List (List au)},GoodS p L→bF p (p.map fun r=>τ r.head.name) c n L=(0,ps)→Steps (Came p (bE L ps)) L ps
 |0,n,L,ps,hL,h=>by
  simp only[bF,Prod.mk.injEq,true_and] at h;subst h
  trivial
 |c+1,n,L,ps,hL,h=>by
  have hg:=rX hp _ (c+1) n hL h;unfold bF at h;obtain⟨e,os,ho⟩:∃e os,aT p (p.map fun r=>τ r.head.name) n 201 L=(e,os):=⟨_,_,rfl⟩;rw[ho] at h;dsimp only at h;split at h
  ·rename_i he;simp at h;exact absurd h.1 he
  ·rename_i he;have he:e=0:=by simpa using he
   subst he;obtain⟨e2,rs,hr⟩:∃e qs,bF p (p.map fun r=>τ r.head.name) c (n+1) (bE L os)=(e,qs):=⟨_,_,rfl⟩;rw[hr] at h;simp only[Prod.mk.injEq] at h;obtain⟨rfl,rfl⟩:=h;obtain⟨a1,a2,a3,_⟩:=kV hp _ 201 hL ho (by omega);obtain⟨b1,b2,b3⟩:=rX hp _ c (n+1) a1 hr;have ih:=D6 hp hτ c (n+1) a1 hr;rw[gM] at hg⊢;exact Steps.append (Bh hp hτ 201 hL ho (by omega) b2 fun f hf hn=>hg.2.2 f hf hn) ih
theorem filterMap_filter {α β:Type} {g:α→Option β} {P:α→Bool}:∀{l:List α},(∀x∈l,P x=false→g x=none)→l.filterMap g=(l.filter P).filterMap g
 |[],_=>rfl
 |a::l,h=>by
  have ih:=filterMap_filter (g:=g) (P:=P) (l:=l) fun x hx=>h x (by simp[hx]);rw[List.filter_cons];cases hp:P a with
  |true=>rw[if_pos rfl,List.filterMap_cons,List.filterMap_cons,ih]
  |false=>rw[if_neg (by simp),List.filterMap_cons_none (h a (by simp) hp),ih]
theorem yU {a:aF} {fs gs:List au} (h:(fs.filter fun f=>decide (f.1=bs a.name))=gs.filter fun f=>decide (f.1=bs a.name)) (ls:List (List aD)):aS a fs ls=aS a gs ls:=by
 unfold aS;have key:∀(l:List aD) (q:List au),(q.filterMap fun f=>fK a f l)=((q.filter fun f=>decide (f.1=bs a.name)).filterMap fun f=>fK a f l):=fun l q=>
  filterMap_filter fun x _ hx=>by
   unfold fK;rw[if_neg];rintro⟨e,_⟩;rw[decide_eq_false_iff_not] at hx;exact hx e.symm
 have e:(fun l=>fs.filterMap fun f=>fK a f l)=fun l=>gs.filterMap fun f=>fK a f l:=by
  funext l
  rw[key l fs,key l gs,h]
 rw[e]
theorem uP {fs gs:List au}:∀(body:List aF) (n:Nat) (ls:List (List aD)),(∀a∈body,(fs.filter fun f=>decide (f.1=bs a.name))=gs.filter fun f=>decide (f.1=bs a.name))→fG (fun _=>fs) n body ls=fG (fun _=>gs) n body ls
 |[],_,_,_=>rfl
 |a::body,n,ls,h=>by
  unfold fG;rw[yU (h a (by simp)),uP body _ _ fun x hx=>h x (by simp[hx]),uP body _ _ fun x hx=>h x (by simp[hx])]
theorem D7 {p:List aB} (hp:dB p) {τ:Bs→Nat} (hτ:Sol p τ):∀(c n:Nat) {L:List au} {ps:List (List au)},GoodS p L→bF p (p.map fun r=>τ r.head.name) c n L=(0,ps)→
  ∀r∈p,n≤τ r.head.name→τ r.head.name<n+c→fG (fun _=>bE L ps) 0 r.body [[]]≠none
 |0,n,L,ps,_,_,r,_,h1,h2=>by omega
 |c+1,n,L,ps,hL,h,r,hr,h1,h2=>by
  unfold bF at h;obtain⟨e,os,ho⟩:∃e os,aT p (p.map fun r=>τ r.head.name) n 201 L=(e,os):=⟨_,_,rfl⟩;rw[ho] at h;dsimp only at h;split at h
  ·rename_i he;simp at h;exact absurd h.1 he
  ·rename_i he;have he:e=0:=by simpa using he
   subst he;obtain⟨e2,rs,hrs⟩:∃e qs,bF p (p.map fun r=>τ r.head.name) c (n+1) (bE L os)=(e,qs):=⟨_,_,rfl⟩;rw[hrs] at h;simp only[Prod.mk.injEq] at h;obtain⟨rfl,rfl⟩:=h;obtain⟨a1,a2,a3,a4⟩:=kV hp _ 201 hL ho (by omega);rw[gM]
   by_cases hn:τ r.head.name=n
   ·obtain⟨b1,b2,b3⟩:=rX hp _ c (n+1) a1 hrs;have hsame:∀a∈r.body,((bE (bE L os) rs).filter fun f=>decide (f.1=bs a.name))=(bE L os).filter fun f=>decide (f.1=bs a.name):=fun a ha=>by
     refine vP (b1.up.filter _) (a1.up.filter _) fun f=> ?_;rw[List.mem_filter,List.mem_filter]
     constructor
     ·rintro⟨hf,hname⟩;refine⟨Classical.byContradiction fun hno=> ?_,hname⟩;obtain⟨q,hq,hqn,IZ⟩:=b3 f hf hno;have e1:a.name=q.head.name:=qL ((of_decide_eq_true hname).symm.trans IZ);have h3:=hτ r hr a ha ⟨q,hq,e1.symm⟩;rw[e1,hn] at h3;omega
     ·rintro⟨hf,hname⟩;exact⟨b2 f hf,hname⟩
    rw[uP r.body 0 [[]] hsame];obtain⟨o1,_⟩:=jq (fun r=>τ r.head.name) a4;obtain⟨x,hx,_⟩:=o1 r hr (by exact_mod_cast hn);intro hnone;unfold gZ lY at hx;rw[hnone] at hx;cases hx
   ·exact D7 hp hτ c (n+1) a1 hrs r hr (by omega) (by omega)
end Go.Proofs.YtafmbokfkbccaaaGreatDoor
