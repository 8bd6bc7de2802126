import Derived.Test.YtafmbokfkbccaaaGreatDoorJB29
import Derived.Test.YtafmbokfkbccaaaGreatDoorJB24
namespace Go.Proofs.YtafmbokfkbccaaaGreatDoor
open Go.RowKit Go.Sort Go.Maps
theorem DL:∃i,Tryz.prog.info? 30=some i∧i.zero=some (.agg #[.string ByteArray.empty,.slice none 0 0,.int .i64 0,.slice none 0 0])∧i.size=4∧i.bytes=72:=⟨Tryz.t30,by kernel_rfl,by kernel_rfl,by kernel_rfl,by kernel_rfl⟩
def Gs (all:List aj) (P mb:Nat) (pv tv av sv:Value) (wF:World) (how:aj→Int×List aj) (N:Nat):Prop:=
 ∀(B:Nat→Prop) (f:aj) (fv:Value) (dep c d n:Nat) (w:World),N+dep=62→(∀k,B k→k≠mb∧k≠P)→(∀k,w.heap.size≤k→B k)→PvS B wF w P mb pv tv av sv (c:Int) (d:Int) n all how→n≤c→c≤400→d≤60→f∈all→bW w fv f→
  Calls Tryz.prog 60 #[.pointer (some ⟨P,0,none⟩),fv,.int .i64 (dep:Int)] w fun e w'=>∃v er n',e=.returned (.tuple #[v,.int .i64 er])∧Qa w.heap.size (N-1) w' v er (bq how N f dep (c,d)).1∧PvS B wF w' P mb pv tv av sv (((bq how N f dep (c,d)).2.1:Nat):Int) (((bq how N f dep (c,d)).2.2:Nat):Int) n' all how∧n'≤(bq how N f dep (c,d)).2.1∧Kq P mb w w'
def pz (g:aj→Nat×Nat→Option bf×(Nat×Nat)) (fs:List aj) (done:List bf) (s:Nat×Nat):Option (List bf)×(Nat×Nat):=((iP g fs s).1.map (done++ ·),(iP g fs s).2)
theorem DN {g:aj→Nat×Nat→Option bf×(Nat×Nat)} {f:aj} {fs:List aj} {done:List bf} {s s':Nat×Nat} (h:g f s=(none,s')):pz g (f::fs) done s=(none,s'):=by
 unfold pz
 conv=>lhs;unfold iP
 rw[h]
 rfl
theorem DR {g:aj→Nat×Nat→Option bf×(Nat×Nat)} {f:aj} {fs:List aj} {done:List bf} {s s':Nat×Nat} {k:bf} (h:g f s=(some k,s')):pz g (f::fs) done s=pz g fs (done++[k]) s':=by
 unfold pz
 conv=>lhs;unfold iP
 rw[h];dsimp only;cases h2:(iP g fs s').1 with
 |none=>rfl
 |some ks=>simp
theorem oF {how:aj→Int×List aj}:∀(n:Nat) (f:aj) (dep:Nat) (s:Nat×Nat) (x:bf) (s':Nat×Nat),bq how n f dep s=(some x,s')→s'.1≤400∧s'.2≤60
 |0,f,dep,s,x,s',h=>by simp[bq] at h
 |n+1,f,dep,s,x,s',h=>by
  unfold bq at h;split at h
  ·simp at h
  ·rename_i hm;have h0:s.1+1≤400∧max s.2 dep≤60:=by
    unfold kr at hm;simp only[Bool.or_eq_true,decide_eq_true_eq,not_or] at hm;omega
   have key:∀(fs:List aj) (s1 s2:Nat×Nat) (ks:List bf),s1.1≤400∧s1.2≤60→iP (fun g s=>bq how n g (dep+1) s) fs s1=(some ks,s2)→s2.1≤400∧s2.2≤60:=by
    intro fs
    induction fs with
    |nil=>intro s1 s2 ks hs hk;simp[iP] at hk;rw[←hk.2];exact hs
    |cons g fs ih=>
     intro s1 s2 ks hs hk;unfold iP at hk;obtain⟨o,s3,h3⟩:∃o s3,bq how n g (dep+1) s1=(o,s3):=⟨_,_,rfl⟩;rw[h3] at hk;dsimp only at hk;cases o with
     |none=>simp at hk
     |some k=>
      dsimp only at hk;obtain⟨o2,s4,h4⟩:∃o s4,iP (fun g s=>bq how n g (dep+1) s) fs s3=(o,s4):=⟨_,_,rfl⟩;rw[h4] at hk;dsimp only at hk;cases o2 with
      |none=>simp at hk
      |some ks2=>
       simp only[Prod.mk.injEq] at hk;rw[←hk.2];exact ih s3 s4 ks2 (oF n g (dep+1) s1 k s3 h3) h4
   obtain⟨o,s1,h1⟩:∃o s1,iP (fun g s=>bq how n g (dep+1) s) (how f).2 (s.1+1,max s.2 dep)=(o,s1):=⟨_,_,rfl⟩;rw[h1] at h;dsimp only at h;cases o with
   |none=>simp at h
   |some ks=>
    simp only[Prod.mk.injEq] at h;rw[←h.2];exact key _ _ s1 ks h0 h1
end Go.Proofs.YtafmbokfkbccaaaGreatDoor
namespace Go.Proofs.YtafmbokfkbccaaaGreatDoor
open Go.RowKit Go.Sort Go.Maps
theorem y9 {l:List ByteArray} {a:Addr} {cap:Nat} {w:World} (hs:Strs w (.slice (some a) l.length cap) l) (hl:l.length≤1000000):
  ∃v' w',(Builtin.append_ #[25,25] 25 #[.slice (some ⟨w.heap.size,0,none⟩) 0 0,.slice (some a) l.length cap]).run Tryz.prog (w.alloc (.cells #[] 9))=.ok v' w'∧bsK.own 9 0 w' v' l∧(w.alloc (.cells #[] 9)).grownBy w' (some w.heap.size)∧∀k,v'.ownBlock=some k→w.heap.size≤k:=by
 obtain⟨i,z,i1,i2,i3,i4,i5⟩:=I7;obtain⟨xs,ho,_⟩:bsK.own 9 0 (w.alloc (.cells #[] 9)) (.slice (some ⟨w.heap.size,0,none⟩) 0 0) []:=rR bsK 9 w;have hxs:xs=[]:=List.eq_nil_of_length_eq_zero (by have:=ho.1;simpa using this);subst hxs;have hcell:∀(j:Nat) u,(l.map Value.string)[j]?=some u→(w.alloc (.cells #[] 9)).cell? (a.add j)=some u:=fun j u hu=>by
  have hj:j<l.length:=by have:=(List.getElem?_eq_some_iff.1 hu).1;simpa using this
  obtain⟨_,a',cap',e,h1⟩:=hs;simp only[Value.slice.injEq] at e;obtain⟨rfl,_,_⟩:=e;obtain⟨b,off,e,hb,hc⟩:=h1 (by intro e;rw[e] at hj;simp at hj);simp only[Option.some.injEq] at e;subst e;have:=hc j hj;rw[Addr.add_lit,World.cell?_of_block (w:=w) (Below.heap_alloc w _ b hb),this];rw[List.getElem?_map,List.getElem?_eq_getElem hj] at hu;rw[List.getD_eq_getElem?_getD,List.getElem?_eq_getElem hj];simpa using hu
 obtain⟨v',w',hrun,r1,r2,r3,r4⟩:=eT (P:=Tryz.prog) (w.alloc (.cells #[] 9)) 0 25 25 9 i z 1 16 Tryz.underlying25 i1 i2 i3 i4 i5 (by decide) _ 0 [] ho a l.length cap (l.map Value.string) (by simp) hcell (fun u hu=>by rw[List.mem_map] at hu;obtain⟨x,_,rfl⟩:=hu;rfl) (by simp only[maxLen];omega) (by omega) (Nat.zero_le _);refine⟨v',w',hrun,⟨l.map Value.string,by have h:=r1;simp only[List.nil_append,Nat.zero_add] at h;exact h,fun j x hj=>⟨[.string x],rfl,fun q u hu=> ?_⟩⟩,r2,fun k e=> ?_⟩
 ·rcases q with _|q
  ·simp at hu;subst hu;show(l.map Value.string)[j*1+0]?=_;rw[Nat.mul_one,Nat.add_zero,List.getElem?_map,hj]
   rfl
  ·simp at hu
 ·rcases r4 k e with h|h
  ·simp[Value.ownBlock] at h;omega
  ·simp at h;omega
set_option maxHeartbeats 1000000 in
theorem DT (l:List ByteArray) (v:Value) (w:World) (h:Strs w v l) (hl:l.length≤1000000):
  Calls Tryz.prog 108 #[v] w fun e w'=>∃v',e=.returned v'∧bsK.own 9 0 w' v' l∧(∀k,v'.ownBlock=some k→w.heap.size≤k)∧Below w.heap.size w w':=by
 obtain⟨a,cap,rfl⟩:=aZ h;cases a with
 |none=>
  have hl0:l=[]:=by
   refine Classical.byContradiction fun hne=> ?_;obtain⟨_,a',cap',e,h1⟩:=h;simp only[Value.slice.injEq] at e;obtain⟨rfl,_,_⟩:=e;obtain⟨b,off,e,_⟩:=h1 hne;cases e
  subst hl0;have hnil:=fun w=>Lib.run_eql_slice_nil (P:=Tryz.prog) w 25 9 none 0 cap 0 0 Tryz.underlying25;clear h hl;simp only[List.length_nil]
  go_enter Tryz.func108,Tryz.ntmps108
  go_wp2;go_ret;exact⟨_,rfl,bsK.jg _ _ _,fun k e=>(by cases e),Below.refl _ _⟩
 |some b=>
  have hnil:=fun w=>Lib.run_eql_slice_nil (P:=Tryz.prog) w 25 9 (some b) l.length cap 0 0 Tryz.underlying25;obtain⟨v',w',hrun,hR,hg,hk⟩:=y9 h hl;have HB:Hid (Below w.heap.size w w'):=(((Later.refl w).alloc (.cells #[] 9)).below).grown hg (by simp) (fun k e=>by simp at e;omega);have HK:=hide hk;have HR:=hide hrun;have HF:=hide hR;clear hrun hR hg hk h
  go_enter Tryz.func108,Tryz.ntmps108
  go_wp2_with (at_builtin;refine wpList_append_run rfl (.tmp 5) (.tmp 6) 25 rfl _ _ _ _ rfl rfl HR.out ?_)
  go_ret;exact⟨v',rfl,HF.out,HK.out,HB.out⟩
end Go.Proofs.YtafmbokfkbccaaaGreatDoor
namespace Go.Proofs.YtafmbokfkbccaaaGreatDoor
open Go.RowKit Go.Sort Go.Maps
structure Gq (w0 wF:World) (P lo mb:Nat) (p:List aA) (told all:List aj) (PS:List (List aj)) (pv tv av sv:Value) (xs:List Value):Prop where
 gp:Gp wF P lo mb av sv xs all PS
 gr:Grd w0 P p told all PS pv tv
 lm:w0.heap.size≤mb
 b0:Below w0.heap.size w0 wF
 cl:∀f∈all,(∀g∈(mX (lu all) p told all PS f).2,g∈all)∧(mX (lu all) p told all PS f).2.length≤1000
 ag:∀f∈all,f.2.length≤1000
 pi:mo pv∧mo tv
theorem AU {P:Nat} {w w':World} {v:Value} {l:List ByteArray} (hn:oW w P) (k:Tn P w w') (h:Strs w v l):Strs w' v l:=by
 obtain⟨h0,a,cap,rfl,h1⟩:=h;refine⟨h0,a,cap,rfl,fun hl=> ?_⟩;obtain⟨b,off,rfl,hb,hc⟩:=h1 hl;refine⟨b,off,rfl,Nat.lt_of_lt_of_le hb k.size,fun i hi=> ?_⟩;rw[World.cell?_of_block (w:=w) (k.block b hb (fun e=>by subst e;exact hn _ _ (hc i hi)))];exact hc i hi
theorem PvS.uI {B:Nat→Prop} {wF w:World} {P lo mb:Nat} {pv tv av sv:Value} {xs:List Value} {c d:Int} {n:Nat} {all:List aj} {PS:List (List aj)} {how:aj→Int×List aj} (h:PvS B wF w P mb pv tv av sv c d n all how) (hp:mo pv) (ht:mo tv) (G:Gp wF P lo mb av sv xs all PS):oW w P:=by
 have ha:mo av:=by obtain⟨a,c,e⟩:=aD G.fa;exact⟨a,_,c,e⟩
 exact h.row.uI hp ht ha G.past.mo
set_option maxRecDepth 100000 in
set_option maxHeartbeats 8000000 in
theorem uK (w0 wF:World) (P lo mb:Nat) (p:List aA) (told all:List aj) (PS:List (List aj)) (pv tv av sv:Value) (xs:List Value) (hG:Gq w0 wF P lo mb p told all PS pv tv av sv xs) (N:Nat) (ih:1≤N→Gs all P mb pv tv av sv wF (mX (lu all) p told all PS) N):Gs all P mb pv tv av sv wF (mX (lu all) p told all PS) (N+1):=by
 intro B f fv dep c d n w hN hB1 hB2 hS hnc hc4 hd6 hfa hf;obtain⟨how,He⟩:∃how,how=mX (lu all) p told all PS:=⟨_,rfl⟩;rw[←He] at hS ih⊢;obtain⟨s,rfl,hs⟩:=hf;obtain⟨sa,sc,rfl⟩:=aZ hs;have hne:=hG.gp.ne;have hlo1:=hG.gp.lo1;have hlo2:=hG.gp.lo2;have hlo3:=hG.gp.lo3;have Tz:=hS.kq.size;obtain⟨w1,hw1⟩:∃w1,w1=(w.alloc (.cells #[.string f.1,.slice sa f.2.length sc] 27)).alloc (.cells #[.string ⟨#[]⟩,.slice none 0 0,.int .i64 0,.slice none 0 0] 30):=⟨_,rfl⟩;have hL1:Later w w1:=by rw[hw1];exact((Later.refl w).alloc _).alloc _
 have hs1:w1.heap.size=w.heap.size+2:=by rw[hw1];simp
 have hr0:w1.heap[w.heap.size]?=some (.cells #[.string f.1,.slice sa f.2.length sc] 27 (0,0)):=by
  rw[hw1];simp only[bO,World.size_alloc]
  repeat (first|rw[if_pos trivial]|rw[if_pos (by omega)]|rw[if_neg (by omega)])
 have hr1:w1.heap[w.heap.size+1]?=some (.cells #[.string ⟨#[]⟩,.slice none 0 0,.int .i64 0,.slice none 0 0] 30 (0,0)):=by
  rw[hw1];simp only[bO,World.size_alloc]
  repeat (first|rw[if_pos trivial]|rw[if_pos (by omega)]|rw[if_neg (by omega)])
 obtain⟨c1,hc1⟩:∃c1:Nat,c1=c+1:=⟨_,rfl⟩;obtain⟨d1,hd1⟩:∃d1:Nat,d1=max d dep:=⟨_,rfl⟩;have hci:(c1:Int)=(c:Int)+1:=by omega
 have hdi:(d1:Int)=max (d:Int) (dep:Int):=by omega
 have hS1:=(hS.mono (B':=fun k=>B k∧k≠w.heap.size∧k≠w.heap.size+1) fun k hk hb=>⟨hb,by omega,by omega⟩).below hL1.below;obtain⟨w2,hw2⟩:∃w2,w2=w1.setCell ⟨P,3,none⟩ (.int .i64 ((c:Int)+1)):=⟨_,rfl⟩;have hS2:PvS (fun k=>B k∧k≠w.heap.size∧k≠w.heap.size+1) wF w2 P mb pv tv av sv (c1:Int) (d:Int) n all how:=by rw[hw2,hci];exact hS1.counts hne (fun k hb=>(hB1 k hb.1).2) 3 _ _ _ (Or.inl ⟨rfl,rfl,rfl⟩)
 obtain⟨w3,hw3⟩:∃w3,w3=w2.setCell ⟨P,4,none⟩ (.int .i64 (max (d:Int) (dep:Int))):=⟨_,rfl⟩;have hS3:PvS (fun k=>B k∧k≠w.heap.size∧k≠w.heap.size+1) wF w3 P mb pv tv av sv (c1:Int) (d1:Int) n all how:=by rw[hw3,hdi];exact hS2.counts hne (fun k hb=>(hB1 k hb.1).2) 4 _ _ _ (Or.inr ⟨rfl,rfl,rfl⟩)
 have hPw:=hS.cells.2.2.2.2.1;have NJ:Tn P w1 w3:=by
  rw[hw3,hw2];exact Tn.setCell (p:=P) (Tn.setCell (p:=P) (Tn.refl _ _) (x:=⟨P,3,none⟩) (Or.inl rfl) _) (x:=⟨P,4,none⟩) (Or.inl rfl) _
 have hs3:w3.heap.size=w.heap.size+2:=by rw[hw3,hw2,size_setCell,size_setCell,hs1]
 have JY:w3.heap[w.heap.size]?=some (.cells #[.string f.1,.slice sa f.2.length sc] 27 (0,0)):=(NJ.block _ (by omega) (by omega)).trans hr0;have y8:w3.heap[w.heap.size+1]?=some (.cells #[.string ⟨#[]⟩,.slice none 0 0,.int .i64 0,.slice none 0 0] 30 (0,0)):=(NJ.block _ (by omega) (by omega)).trans hr1;have Rq:Kq P mb w w3:=(Kq.of_below hL1.below).trans (Kq.NI NJ);obtain⟨a3,_,a5,_,_,_⟩:=hS1.cells;obtain⟨_,b4,_,b6,_,_⟩:=hS2.cells;obtain⟨g3,_,_,_,_,g8⟩:=hS3.cells;have HMu:=hide (KA c1 d1 w3);have HC1:=hide hc1;have HD1:=hide hd1;clear hc1 hd1 hci hdi;have HW1:=hide hw1;have HW2:=hide hw2;have HW3:=hide hw3;have HS3:=hide hS3;have HR0:=hide JY;have HR1:=hide y8;have HK3:=hide Rq;have HG:=hide hG;have HB1:=hide hB1;have HB2:=hide hB2;have HIh:=hide ih;have Qb:=hide He;have Rs:Strs w3 (.slice sa f.2.length sc) f.2:=AU (hS1.uI hG.pi.1 hG.pi.2 hG.gp) NJ (hs.later hL1);have Rt:=hide Rs;clear hG hB1 hB2 hS hs He ih hw1 hw2 hw3 hL1 hr0 hr1 hS1 hS2 hS3 NJ JY y8 Rq Rs;obtain⟨fn,aH⟩:=f;dsimp only at*
 go_enter Tryz.func60,Tryz.ntmps60
 go_wp2_with (first|(rw[←HW1.out])|(rw[←HW2.out])|(rw[←HW3.out])|fail)
 refine HMu.out.mono ?_;rintro e w4 ⟨rfl,hL4⟩;have Np:=hL4.size;have hS4:=HS3.out.below hL4.below;have NK:=(hL4.block (by omega:w.heap.size<w3.heap.size)).trans HR0.out;have Hg:=(hL4.block (by omega:w.heap.size+1<w3.heap.size)).trans HR1.out;have hK4:Kq P mb w w4:=HK3.out.trans (Kq.of_below hL4.below);have HS4:=hide hS4;have Qc:=hide NK;have Md:=hide Hg;have HK4:=hide hK4;have Qd:=hide (Rt.out.later hL4);have HFin:Hid (∀(x0 x1 x2 x3:Value) (wr:World),wr.heap[w.heap.size+1]?=some (.cells #[.string ⟨#[]⟩,.slice none 0 0,.int .i64 0,.slice none 0 0] 30 (0,0))→Kq P mb w wr→Kq P mb w (uJ wr (w.heap.size+1) x0 x1 x2 x3)):=fun x0 x1 x2 x3 wr hr hK=>by
  have hT:=oD wr (w.heap.size+1) x0 x1 x2 x3;exact⟨hT.os.trans hK.os,hT.tape.trans hK.tape,hT.output.trans hK.output,Nat.le_trans hK.size hT.size,fun k hk h1 h2=>(hT.block k (Nat.lt_of_lt_of_le hk hK.size) (by omega)).trans (hK.block k hk h1 h2)⟩
 have HTu:Hid (∀(B':Nat→Prop) (cx dx:Int) (nx:Nat) (x0 x1 x2 x3:Value) (wr:World),(∀k,B' k→k≠w.heap.size+1)→PvS B' wF wr P mb pv tv av sv cx dx nx all how→PvS B' wF (uJ wr (w.heap.size+1) x0 x1 x2 x3) P mb pv tv av sv cx dx nx all how):=fun B' cx dx nx x0 x1 x2 x3 wr hb hS=>by
  have hT:=oD wr (w.heap.size+1) x0 x1 x2 x3;refine hS.turned hT.os hT.tape hT.output hT.size fun k hk h=>hT.block k hk ?_;rcases h with h|h|h|h
  ·omega
  ·omega
  ·omega
  ·exact hb k h
 clear hS4 NK hK4 HMu g3 g8 a3 a5 b4 b6 HS3 HR0 HR1 HK3 Rt;cases hm:kr (c1,d1) with
 |true=>
  have HX:Hid (bq how (N+1) (fn,aH) dep (c,d)=(none,(c1,d1))):=by
   show _=_;unfold bq;dsimp only;rw[←HC1.out,←HD1.out,if_pos hm]
  have HK:=hide (HFin.out (.string ⟨#[]⟩) (.slice none 0 0) (.int .i64 0) (.slice none 0 0) w4 Md.out HK4.out);have HP:=hide (HTu.out _ _ _ _ (.string ⟨#[]⟩) (.slice none 0 0) (.int .i64 0) (.slice none 0 0) w4 (fun k hb=>hb.2.2) HS4.out);have HZ:=hide (iQ (iZ Md.out (.string ⟨#[]⟩) (.slice none 0 0) (.int .i64 0) (.slice none 0 0))).1;obtain⟨_,_,⟨t0,t1,t2,t3⟩,_⟩:=iQ Hg;clear hm Hg HFin HTu HIh HG hL4;go_wp2;obtain⟨z0,z1,z2,z3⟩:=HZ.out;unfold uJ at z0 z1 z2 z3;have hc1:=HC1.out;refine bodyPost_ret (v:=.tuple #[j6,.int .i64 4]) (by simp[results,Tryz.results60,go_sem,z0,z1,z2,z3];rfl) rfl ⟨j6,4,n,rfl,?_,?_,?_,HK.out⟩
  ·rw[HX.out];exact⟨rfl,rfl⟩
  ·rw[HX.out];exact HP.out.mono fun k _ hb=>hb.1
  ·rw[HX.out];show n≤c1;omega
 |false=>
  have hcd:c1≤400∧d1≤60:=by
   unfold kr at hm;simp only[Bool.or_eq_false_iff,decide_eq_false_iff_not] at hm;omega
  have hN1:1≤N:=by have:=HD1.out;omega
  have hNc:n≤1000:=by omega
  obtain⟨rl,of,hho⟩:∃rl of,how (fn,aH)=(rl,of):=⟨_,_,rfl⟩;have HPG:Hid (bq how (N+1) (fn,aH) dep (c,d)=((pz (fun g s=>bq how N g (dep+1) s) of [] (c1,d1)).1.map (bf.mk (fn,aH) rl),(pz (fun g s=>bq how N g (dep+1) s) of [] (c1,d1)).2)):=by
   show _=_
   conv=>lhs;unfold bq
   dsimp only;rw[←HC1.out,←HD1.out,if_neg (by rw[hm];simp),hho];unfold pz;dsimp only;cases(iP (fun g s=>bq how N g (dep+1) s) of (c1,d1)).1 <;> rfl
  have Ru:Below w0.heap.size w0 w4:=ak HG.out.b0 ((HS4.out.kq).below HG.out.gr.low HG.out.lm HG.out.b0.size) (Nat.le_refl _);have Rv:bW w4 (.agg #[.string fn,.slice sa aH.length sc]) (fn,aH):=⟨_,rfl,Qd.out⟩;have hWy:=P7 (fun k=>B k∧k≠w.heap.size∧k≠w.heap.size+1) p told all PS (fn,aH) P lo pv tv (.agg #[.string fn,.slice sa aH.length sc]) (c1:Int) (d1:Int) mb n w0 w4 HG.out.gr Ru (by rw[←Qb.out];exact HS4.out.prx HG.out.gp) (fun k hb=>(HB1.out k hb.1).1) (fun k hk=>⟨HB2.out k (by omega),by omega,by omega⟩) Rv hfa hNc;rw[←Qb.out,hho] at hWy;have HWy:=hide hWy;have hcl:=HG.out.cl (fn,aH) hfa;rw[←Qb.out,hho] at hcl;dsimp only at hcl;obtain⟨Rw,UE⟩:=hcl;have UF:aH.length≤1000:=HG.out.ag (fn,aH) hfa;have TT:=hide Rw;have HHo:=hide hho;obtain⟨q0,q1,_,_,_⟩:=lH Qc.out;have q1':w4.cell? ⟨w.heap.size,0+1,none⟩=some (.slice sa aH.length sc):=q1;clear hm hho Ru Rv hWy Rw Hg q1
  go_wp2_with fail
  refine HWy.out.mono ?_;rintro e w5 ⟨v5,n5,rfl,⟨u5,rfl,hF5⟩,hX5,hn5,hT5⟩;dsimp only at hF5;have hF5:dU (fun k=>B k∧k≠w.heap.size∧k≠w.heap.size+1) w5 u5 of:=hF5;obtain⟨ha,hc,rfl⟩:=aD hF5.facts;have UG:=HS4.out.ways.lt;have hP4:=HS4.out.cells.2.2.2.2.1;have hS5:PvS (fun k=>B k∧k≠w.heap.size∧k≠w.heap.size+1) wF w5 P mb pv tv av sv (c1:Int) (d1:Int) n5 all how:=⟨HS4.out.row.block (hT5.block P hP4 hne),HS4.out.kq.trans (Kq.JV hT5),hX5.ways⟩;obtain⟨w6,hw6⟩:∃w6,w6=w5.alloc (.cells #[.int .i64 rl,.slice ha of.length hc] 182):=⟨_,rfl⟩;have hL6:Later w5 w6:=by rw[hw6];exact(Later.refl w5).alloc _
  have hs6:w5.heap.size<w6.heap.size:=by rw[hw6];simp
  have Qe:w6.heap[w5.heap.size]?=some (.cells #[.int .i64 rl,.slice ha of.length hc] 182 (0,0)):=by rw[hw6];exact heap_alloc_new w5 _
  have hsz5:=hT5.size;have Q0:w.heap.size+2≤w4.heap.size:=by omega
  have Rx:=(hT5.block w.heap.size (by omega) (by omega)).trans Qc.out;have zx:=(hT5.block (w.heap.size+1) (by omega) (by omega)).trans Md.out;have Ry:=(hL6.block (by omega:w.heap.size<w5.heap.size)).trans Rx;have Ec:=(hL6.block (by omega:w.heap.size+1<w5.heap.size)).trans zx;have hS6:=hS5.below hL6.below;have hF6:=hF5.below hL6.below;have hK6:Kq P mb w w6:=(HK4.out.trans (Kq.JV hT5)).trans (Kq.of_below hL6.below);have Rz:Strs w6 (.slice sa aH.length sc) aH:=(Af Qd.out HS4.out.ways.isMap hT5).later hL6;have HCl:Hid (∀w',Below w6.heap.size w6 w'→Calls Tryz.prog 108 #[.slice sa aH.length sc] w' fun e w''=>∃v',e=.returned v'∧bsK.own 9 0 w'' v' aH∧(∀k,v'.ownBlock=some k→w'.heap.size≤k)∧Below w6.heap.size w6 w''∧Below w'.heap.size w' w''):=fun w' h=>
   (DT aH _ w' (Rz.below h) (by omega)).mono fun e w'' ⟨v',h1,h2,h3,h4⟩=>⟨v',h1,h2,h3,ak h h4 h.size,h4⟩
  have HCe:Hid (∀w',Below w6.heap.size w6 w'→w'.cell? ⟨w.heap.size,0,none⟩=some (.string fn)∧w'.cell? ⟨w.heap.size,1,none⟩=some (.slice sa aH.length sc)∧w'.cell? ⟨w5.heap.size,0,none⟩=some (.int .i64 rl)):=fun w' h=>by
   have h0:=(h.block _ (by omega)).trans Ry;have h1:=(h.block _ (by omega)).trans Qe;exact⟨by rw[cell_of_row _ _ _ _ _ _ h0];rfl,by rw[cell_of_row _ _ _ _ _ _ h0];rfl,by rw[cell_of_row _ _ _ _ _ _ h1];rfl⟩
  have HW6:=hide hw6;have HS6:=hide hS6;have HF6:=hide hF6;have HK6:=hide hK6;have Ox:=hide Ec;have RA:=hide Qe;clear hF5 hX5 hT5 hS5 hw6 hL6 Qe Rx zx Ry Ec hS6 hF6 hK6 Rz HWy q0 q1' HS4 Qd Qc Md HK4 hL4
  go_wp2_with (rw[←HW6.out])
  refine wp_region_held_drew (S:=fun w'=>Below w6.heap.size w6 w') (by kernel_rfl) (Below.refl _ _).drew (fun hHeld=> ?_);refine au (i:=0) (d:=some 43) (v:= ?_) rfl rfl hHeld ?_ ?_;rotate_left;focus intro w hSw;(try dsimp only at hSw);go_simp;try with_reducible rfl
  simp only[bP,bQ,aze,asu];refine au (i:=1) (d:=some 44) (v:= ?_) rfl rfl hHeld ?_ ?_;rotate_left;focus intro w hSw;(try dsimp only at hSw);obtain⟨p0,p1,p2⟩:=HCe.out _ hSw;go_simp;try with_reducible rfl
  simp only[bP,bQ,aze,asu];refine au (i:=2) (d:=some 45) (v:= ?_) rfl rfl hHeld ?_ ?_;rotate_left;focus intro w hSw;(try dsimp only at hSw);go_simp;try with_reducible rfl
  simp only[bP,bQ,aze,asu];refine au (i:=3) (d:=some 46) (v:= ?_) rfl rfl hHeld ?_ ?_;rotate_left;focus intro w hSw;(try dsimp only at hSw);obtain⟨p0,p1,p2⟩:=HCe.out _ hSw;go_simp;try with_reducible rfl
  simp only[bP,bQ,aze,asu];refine au (i:=6) (d:=some 49) (v:= ?_) rfl rfl hHeld ?_ ?_;rotate_left;focus intro w hSw;(try dsimp only at hSw);go_simp;try with_reducible rfl
  simp only[bP,bQ,aze,asu];refine au (i:=7) (d:=some 50) (v:= ?_) rfl rfl hHeld ?_ ?_;rotate_left;focus intro w hSw;(try dsimp only at hSw);obtain⟨p0,p1,p2⟩:=HCe.out _ hSw;go_simp;try with_reducible rfl
  simp only[bP,bQ,aze,asu];have hBe:Below w6.heap.size w6 w6.drew:=(Below.refl _ _).drew;refine wpAnyH_ready (rs:=[4,9]) (by kernel_rfl) (by simp) ?_;refine AllReadyH.cons rfl (fun K' hK=> ?ga) (AllReadyH.cons rfl (fun K' hK=> ?gb) AllReadyH.nil)
  case' ga=>
   go_simp;refine(HCl.out _ hBe).mono ?_;rintro e wx ⟨v1,rfl,hO1,hv0,hB1,Lj⟩;have hsl1:=JW hO1 (by omega);obtain⟨xa,xc,rfl⟩:=Kind.slice hsl1;have hv1:∀k,(Value.slice xa aH.length xc).ownBlock=some k→w6.heap.size≤k:=hv0;have Qf:∀k,(Value.slice xa aH.length xc).ownBlock=some k→k<wx.heap.size:=fun k e=>by
    obtain⟨ys,ho,_⟩:=hO1;exact(ho.lt k e).2
   refine hK.out _ _ hB1 (fun hHeld=> ?_);clear hK K' hBe hO1 Lj hv0;have hBe:=hB1;clear hB1;refine au (i:=5) (d:=some 48) (v:= ?_) rfl rfl hHeld ?_ ?_;rotate_left;focus intro w hSw;(try dsimp only at hSw);go_simp;try with_reducible rfl
   simp only[bP,bQ,aze,asu];refine au (i:=8) (d:=some 51) (v:= ?_) rfl rfl hHeld ?_ ?_;rotate_left;focus intro w hSw;(try dsimp only at hSw);go_simp;try with_reducible rfl
   simp only[bP,bQ,aze,asu];refine wpAnyH_ready (rs:=[9]) (by kernel_rfl) (by simp) ?_;refine AllReadyH.cons rfl (fun K' hK=> ?_) AllReadyH.nil;go_simp;have hzN:=heap_alloc_new wx (.cells #[.string ⟨#[]⟩,.slice none 0 0,.int .i64 0,.slice none 0 0] 30);have hLz:=(Later.refl wx).alloc (.cells #[.string ⟨#[]⟩,.slice none 0 0,.int .i64 0,.slice none 0 0] 30);have wG:=ak hBe hLz.below hBe.size;have hsl:bsK.sl (jD (.slice xa aH.length xc)) (wx.alloc (.cells #[.string ⟨#[]⟩,.slice none 0 0,.int .i64 0,.slice none 0 0] 30)) (.slice xa aH.length xc) aH:=Kind.aT hsl1 hLz.size fun k hk _=>hLz.block hk;have hbx:w6.heap.size≤wx.heap.size:=hBe.size;have hvx:∀k,(Value.slice xa aH.length xc).ownBlock=some k→w6.heap.size≤k∧k≠wx.heap.size∧k<(wx.alloc (.cells #[.string ⟨#[]⟩,.slice none 0 0,.int .i64 0,.slice none 0 0] 30)).heap.size:=fun k e=>⟨hv1 k e,by have:=Qf k e;omega,by have:=Qf k e;simp;omega⟩;refine hK.out _ _ wG (fun hHeld=> ?_);clear hK K' hBe hHeld hv1 Qf hsl1 hLz;generalize wx.heap.size=bx at*;generalize wx.alloc (.cells #[.string ⟨#[]⟩,.slice none 0 0,.int .i64 0,.slice none 0 0] 30)=wf at*;have hBe:=wG;have hHeld:=wG;clear wG
  case' gb=>
   go_simp;have hzN:((w6.alloc (.cells #[.string ⟨#[]⟩,.slice none 0 0,.int .i64 0,.slice none 0 0] 30)).drew).heap[w6.heap.size]?=some (.cells #[.string ⟨#[]⟩,.slice none 0 0,.int .i64 0,.slice none 0 0] 30 (0,0)):=heap_alloc_new w6 _;have wG:Below w6.heap.size w6 ((w6.alloc (.cells #[.string ⟨#[]⟩,.slice none 0 0,.int .i64 0,.slice none 0 0] 30)).drew):=((Later.refl w6).alloc (.cells #[.string ⟨#[]⟩,.slice none 0 0,.int .i64 0,.slice none 0 0] 30)).drew.below;have hbl:w6.heap.size<((w6.alloc (.cells #[.string ⟨#[]⟩,.slice none 0 0,.int .i64 0,.slice none 0 0] 30)).drew).heap.size:=by simp
   obtain⟨bx,NA⟩:∃bx,w6.heap.size=bx:=⟨_,rfl⟩;rw[NA] at hzN hbl;have hbx:w6.heap.size≤bx:=by omega
   refine hK.out _ _ wG (fun hHeld=> ?_);clear hK K' hBe hHeld;generalize((w6.alloc (.cells #[.string ⟨#[]⟩,.slice none 0 0,.int .i64 0,.slice none 0 0] 30)).drew)=wz at*;have hBe:=wG;have hHeld:=wG;clear wG;refine wpAnyH_ready (rs:=[4]) (by kernel_rfl) (by simp) ?_;refine AllReadyH.cons rfl (fun K' hK=> ?_) AllReadyH.nil;go_simp;refine(HCl.out _ hBe).mono ?_;rintro e wf ⟨v1,rfl,hO1,hv1,hB1,Lj⟩;have hsl:=JW hO1 (by omega);obtain⟨xa,xc,rfl⟩:=Kind.slice hsl;have hvx:∀k,(Value.slice xa aH.length xc).ownBlock=some k→w6.heap.size≤k∧k≠bx∧k<wf.heap.size:=fun k e=>⟨by have:=hv1 k e;omega,by have:=hv1 k e;omega,by obtain⟨ys,ho,_⟩:=hO1;exact(ho.lt k e).2⟩;have hzN:=(Lj.block _ hbl).trans hzN;refine hK.out _ _ hB1 (fun hHeld=> ?_);clear hK K' hBe Lj hbl NA hO1 hv1;have hBe:=hB1;clear hB1;refine au (i:=5) (d:=some 48) (v:= ?_) rfl rfl hHeld ?_ ?_;rotate_left;focus intro w hSw;(try dsimp only at hSw);go_simp;try with_reducible rfl
   simp only[bP,bQ,aze,asu];refine au (i:=8) (d:=some 51) (v:= ?_) rfl rfl hHeld ?_ ?_;rotate_left;focus intro w hSw;(try dsimp only at hSw);go_simp;try with_reducible rfl
   simp only[bP,bQ,aze,asu]
  all_goals
   refine wpAnyH_ready (rs:=[10]) (by kernel_rfl) (by simp) ?_;refine AllReadyH.cons rfl (fun K' hK=> ?_) AllReadyH.nil;obtain⟨_,_,⟨t0,t1,t2,t3⟩,hbl⟩:=iQ hzN;go_simp;have hT7:=oD wf bx (.string fn) (.slice xa aH.length xc) (.int .i64 rl) (.slice none 0 0);have hR7:=iZ hzN (.string fn) (.slice xa aH.length xc) (.int .i64 rl) (.slice none 0 0);have BU:Below w6.heap.size w6 (uJ wf bx (.string fn) (.slice xa aH.length xc) (.int .i64 rl) (.slice none 0 0)):=ak hBe (hT7.below hbx hBe.size) (Nat.le_refl _);have Oy:bsK.sl (jD (.slice xa aH.length xc)) (uJ wf bx (.string fn) (.slice xa aH.length xc) (.int .i64 rl) (.slice none 0 0)) (.slice xa aH.length xc) aH:=Kind.aT hsl hT7.size fun k hk e=>hT7.block k hk (hvx k e).2.1;refine hK.out _ _ BU (fun hHeld=> ?_);clear hK K' hHeld;refine wpAnyH_done (by kernel_rfl) ?_ _;obtain⟨w7,hw7⟩:∃w7,w7=uJ wf bx (.string fn) (.slice xa aH.length xc) (.int .i64 rl) (.slice none 0 0):=⟨_,rfl⟩;have RB:=hT7.size;rw[←hw7] at hR7 BU Oy RB;unfold uJ at hw7;rw[←hw7];obtain⟨M,rfl⟩:∃M,N=M+1:=⟨N-1,by omega⟩;have UH:bx<w7.heap.size:=by omega
   have TU:=BU.size;obtain⟨v1,RD⟩:∃v1,v1=Value.slice xa aH.length xc:=⟨_,rfl⟩;rw[←RD] at Oy hR7 hvx;have hS7:=(HS6.out.mono (B':=fun k=>(B k∧k≠w.heap.size∧k≠w.heap.size+1)∧k≠bx) fun k hk hb=>⟨hb,by omega⟩).below BU;have Oz:=(BU.block (w.heap.size+1) (by omega)).trans Ox.out;have RF:=(BU.block w5.heap.size (by omega)).trans RA.out;have y1:w7.cell? ⟨w5.heap.size,1,none⟩=some (.slice ha of.length hc):=by rw[cell_of_row _ _ _ _ _ _ RF];rfl
   have HSl:=hide Oy;have HR7:=hide hR7;have HVx:Hid (∀k,v1.ownBlock=some k→w6.heap.size≤k∧k≠bx∧k<w7.heap.size):=fun k e=>⟨(hvx k e).1,(hvx k e).2.1,Nat.lt_of_lt_of_le (hvx k e).2.2 RB⟩;have HS7:Hid (PvS (fun k=>((B k∧k≠w.heap.size∧k≠w.heap.size+1)∧k≠bx)∧(Value.slice none 0 0).ownBlock≠some k) wF w7 P mb pv tv av sv (c1:Int) (d1:Int) n5 all how):=hS7.mono fun k _ hb=>⟨hb,by simp[Value.ownBlock]⟩;have HK7:Hid (Kq P mb w6 w7):=Kq.of_below BU;have RG:Hid (∃PG,PG=pz (fun g s=>bq how (M+1) g (dep+1) s) of [] (c1,d1)):=⟨_,rfl⟩;obtain⟨PG,hPG⟩:=RG.out;rw[←hPG] at HPG;have Jf:=hide hPG;have TV:n5≤c1:=by have:=HC1.out;omega
   obtain⟨TW,TY⟩:=hcd;clear Oy hR7 hvx hS7 Oz RF hw7 hT7 BU hzN hBe hsl t0 t1 t2 t3 RG hPG HCl HCe HW6 hHeld RA HS6;go_wp2;clear y1
   go_loopg [55] of.length (fun g i wr=>∃(j:Nat) (done:List bf) (cc dd nn:Nat) (ka:Option Addr) (kn kc:Nat),j+g=of.length∧i=.int .i64 j∧Hid (done.length=j)∧Hid ((Ed (M+1)).own 30 w7.heap.size wr (.slice ka kn kc) done)∧Hid (wr.heap[bx]?=some (.cells #[.string fn,v1,.int .i64 rl,.slice ka kn kc] 30 (0,0)))∧Hid (PG=pz (fun g s=>bq how (M+1) g (dep+1) s) (of.drop j) done (cc,dd))∧Hid (PvS (fun k=>((B k∧k≠w.heap.size∧k≠w.heap.size+1)∧k≠bx)∧(Value.slice ka kn kc).ownBlock≠some k) wF wr P mb pv tv av sv (cc:Int) (dd:Int) nn all how)∧nn≤cc∧cc≤400∧dd≤60∧Hid (Kq P mb w6 wr)∧Hid (bsK.sl (jD v1) wr v1 aH)∧w7.heap.size≤wr.heap.size)
   case atStart=>exact⟨0,[],c1,d1,n5,none,0,0,by omega,rfl,(rfl:_=_),Kind.jg _ _ _ _,HR7.out,(by rw[List.drop_zero];exact Jf.out:_=_),HS7,TV,TW,TY,HK7,HSl,Nat.le_refl _⟩
   case round=>
    clear Jf HS7 HR7 HSl HK7;obtain⟨j,done,cc,dd,nn,ka,kn,kc,hj,rfl,HDn,HO,HR,Jf,HS,hnn,hcc,hdd,HK,HSl,Tx⟩:=hrel;have Me:=(HK.out.block (w.heap.size+1) (by omega) (by omega) (by omega)).trans Ox.out;have RH:=hide Me
    by_cases hlt:j<of.length
    ·have hFr:=HF6.out.kept HK.out.size fun k hk hb=>HK.out.block k hk (HB1.out k hb.1).2 (HB1.out k hb.1).1;have hgA:of.getD j aB∈of:=by
      rw[List.getD_eq_getElem?_getD,List.getElem?_eq_getElem hlt];exact List.getElem_mem hlt
     have hdr:of.drop j=of.getD j aB::of.drop (j+1):=by
      rw[List.drop_eq_getElem_cons hlt,List.getD_eq_getElem?_getD,List.getElem?_eq_getElem hlt]
      rfl
     obtain⟨_,_,_,e0,RI⟩:=hFr;simp only[Value.slice.injEq,true_and] at e0;obtain⟨rfl,rfl⟩:=e0;obtain⟨fb,fo,hfe,_,UJ,hfc⟩:=RI (by intro e;rw[e] at hlt;simp at hlt);subst hfe;obtain⟨f0,gs,f1,hgs,_⟩:=hfc j hlt;obtain⟨ga,gc,rfl⟩:=aZ hgs;obtain⟨G,hGe⟩:∃G,G=of.getD j aB:=⟨_,rfl⟩;rw[←hGe] at f0 f1 hgs hgA hdr;obtain⟨gn,gargs⟩:=G;dsimp only at f0 f1 hgs;have hGa:(gn,gargs)∈all:=TT.out _ hgA;obtain⟨w8,hw8⟩:∃w8,w8=wr.alloc (.cells #[.string gn,.slice ga gargs.length gc] 27):=⟨_,rfl⟩;have hL8:Later wr w8:=by rw[hw8];exact(Later.refl wr).alloc _
     have hR8:w8.heap[wr.heap.size]?=some (.cells #[.string gn,.slice ga gargs.length gc] 27 (0,0)):=by rw[hw8];exact heap_alloc_new wr _
     obtain⟨x0,x1,_,_,_⟩:=lH hR8;have x1':w8.cell? ⟨wr.heap.size,0+1,none⟩=some (.slice ga gargs.length gc):=x1;have UK:=hL8.size;have hown:∀k,(Value.slice ka kn kc).ownBlock=some k→w7.heap.size≤k∧k<wr.heap.size:=fun k e=>by
      obtain⟨ys,ho,_⟩:=HO.out;exact ho.lt k e
     have OA:=HIh.out (by omega) (fun k=>((B k∧k≠w.heap.size∧k≠w.heap.size+1)∧k≠bx)∧(Value.slice ka kn kc).ownBlock≠some k) (gn,gargs) (.agg #[.string gn,.slice ga gargs.length gc]) (dep+1) cc dd nn w8 (by omega) (fun k hb=>HB1.out k hb.1.1.1) (fun k hk=>⟨⟨⟨HB2.out k (by omega),by omega,by omega⟩,by omega⟩,fun e=>by have:=(hown k e).2;omega⟩) (HS.out.below hL8.below) hnn hcc hdd hGa ⟨_,rfl,hgs.later hL8⟩;rw[show(((dep+1:Nat):Int))=(dep:Int)+1 from rfl] at OA;obtain⟨PX,hPX⟩:∃PX,PX=bq how (M+1) (gn,gargs) (dep+1) (cc,dd):=⟨_,rfl⟩;rw[←hPX] at OA;have RJ:=hide OA;have HPX:=hide hPX;have HW8:=hide hw8;have HL8:=hide hL8;have HOw:=hide hown;have HDr:=hide hdr;clear OA hPX hw8 hR8 hL8 RI hfc hgs hgA hGa hGe x1 hown hdr
     go_wp2_with (first|(rw[←HW8.out])|fail)
     refine RJ.out.mono ?_;rintro e w9 ⟨v9,er9,n9,rfl,hV9,hS9,hn9,hK9⟩;obtain⟨PX1,c9,d9⟩:=PX;dsimp only at hV9 hS9 hn9;have UL:=hK9.size;have Jg:Kq P mb wr w9:=(Kq.of_below HL8.out.below).trans hK9;have OB:=(Jg.block (w.heap.size+1) (by omega) (by omega) (by omega)).trans RH.out;clear RJ f0 f1 x0 x1' HW8;cases PX1 with
     |none=>
      obtain⟨rfl,rfl⟩:=hV9;have HE:Hid (bq how (M+1+1) (fn,aH) dep (c,d)=(none,(c9,d9))):=by
       show _=_;rw[HPG.out,Jf.out,HDr.out,DN HPX.out.symm]
       rfl
      obtain⟨es,hes⟩:∃es:ByteArray,es=⟨#[]⟩:=⟨_,rfl⟩;rw[show j6=.agg #[.string es,.slice none 0 0,.int .i64 0,.slice none 0 0] by rw[hes];rfl];clear hes;obtain⟨w10,JZ⟩:∃w10,w10=w9.alloc (.cells #[.string es,.slice none 0 0,.int .i64 0,.slice none 0 0] 30):=⟨_,rfl⟩;have wM:Later w9 w10:=by rw[JZ];exact(Later.refl w9).alloc _
      have Jh:=(wM.block (Array.getElem?_eq_some_iff.1 OB).1).trans OB;have hKw:Kq P mb w w10:=((HK6.out.trans HK.out).trans Jg).trans (Kq.of_below wM.below);have HKf:=hide (HFin.out (.string ⟨#[]⟩) (.slice none 0 0) (.int .i64 0) (.slice none 0 0) w10 Jh hKw);have HPf:=hide ((HTu.out _ _ _ _ (.string ⟨#[]⟩) (.slice none 0 0) (.int .i64 0) (.slice none 0 0) w10 (fun k hb=>hb.1.1.2.2) (hS9.below wM.below)).mono (B':=B) fun k _ hb=>hb.1.1.1);have HZ:=hide (iQ (iZ Jh (.string ⟨#[]⟩) (.slice none 0 0) (.int .i64 0) (.slice none 0 0))).1;obtain⟨_,_,⟨t0,t1,t2,t3⟩,_⟩:=iQ Jh;have Qg:=hide JZ;clear JZ wM Jh hKw OB Jg hS9 hK9 Jf HO HS HIh HPX
      go_wp2_with (rw[←Qg.out])
      obtain⟨z0,z1,z2,z3⟩:=HZ.out;unfold uJ at z0 z1 z2 z3;refine bodyPost_ret (v:=.tuple #[j6,.int .i64 4]) (by simp[results,Tryz.results60,go_sem,z0,z1,z2,z3];rfl) rfl ⟨j6,4,n9,rfl,?_,?_,?_,HKf.out⟩
      ·rw[HE.out];exact⟨rfl,rfl⟩
      ·rw[HE.out];exact HPf.out
      ·rw[HE.out];exact hn9
     |some x=>
      obtain⟨rfl,s9,k9,rfl,hs9,hk9,hz9⟩:=hV9;have hk9:(Ed M).sl (From w8.heap.size) w9 k9 x.kids:=hk9;obtain⟨sa9,sc9,rfl⟩:=Kind.slice hs9;obtain⟨ka9,kc9,rfl⟩:=Kind.slice hk9;have hbd:=oF (M+1) (gn,gargs) (dep+1) (cc,dd) x (c9,d9) HPX.out.symm;dsimp only at hbd;have HE:Hid (PG=pz (fun g s=>bq how (M+1) g (dep+1) s) (of.drop (j+1)) (done++[x]) (c9,d9)):=by
       show _=_;rw[Jf.out,HDr.out];exact DR HPX.out.symm
      obtain⟨w10,JZ⟩:∃w10,w10=w9.alloc (.cells #[.string x.fact.1,.slice sa9 x.fact.2.length sc9,.int .i64 x.rule,.slice ka9 x.kids.length kc9] 30):=⟨_,rfl⟩;have wM:Later w9 w10:=by rw[JZ];exact(Later.refl w9).alloc _
      have RL:w10.heap[w9.heap.size]?=some (.cells #[.string x.fact.1,.slice sa9 x.fact.2.length sc9,.int .i64 x.rule,.slice ka9 x.kids.length kc9] 30 (0,0)):=by rw[JZ];exact heap_alloc_new w9 _
      have T9:=wM.size;have RN:=(Jg.block bx (by omega) (by omega) (by omega)).trans HR.out;have Ji:=(wM.block (by omega:bx<w9.heap.size)).trans RN;have Jj:Kq P mb w6 w10:=(HK.out.trans Jg).trans (Kq.of_below wM.below);have RO:(Ed (M+1)).own 30 w7.heap.size w10 (.slice ka kn kc) done:=Kind.jA (Kind.jA HO.out Jg.size fun k hk hl=>Jg.block k hk (by omega) (by omega)) wM.size fun k hk _=>wM.block hk;have uL:∀k,(Value.slice ka kn kc).ownBlock=some k→w7.heap.size≤k∧k<wr.heap.size:=HOw.out;have hcx:(Ed (M+1)).is (fun k=>w7.heap.size≤k∧(Value.slice ka kn kc).ownBlock≠some k) w10 [.string x.fact.1,.slice sa9 x.fact.2.length sc9,.int .i64 x.rule,.slice ka9 x.kids.length kc9] x:=by
       have hm:∀k,k<w10.heap.size→From w8.heap.size k→(w7.heap.size≤k∧(Value.slice ka kn kc).ownBlock≠some k):=fun k _ (hb:w8.heap.size≤k)=>⟨by omega,fun e=>by have:=(uL k e).2;omega⟩;exact⟨_,_,rfl,Kind.aW (Kind.aT hs9 wM.size fun k hk _=>wM.block hk) hm,Kind.aW (Kind.aT hk9 wM.size fun k hk _=>wM.block hk) hm,hz9.kept hk9 fun k hk _=>wM.block hk⟩
      have hdl:=HDn.out;obtain⟨ti,i1,i2,i3,i4⟩:=DL;obtain⟨v11,w11,hrun,Qh,DU,_,RQ⟩:=Kind.vD (P:=Tryz.prog) (t:=28) RO Tryz.underlying28 i1 i2 i3 i4 rfl (by show 0<4;decide) hcx (by omega) (by simp only[maxLen];omega) (by omega);obtain⟨ka2,kn2,kc2,rfl⟩:∃a n c,v11=.slice a n c:=by
       obtain⟨a,c,e⟩:=Kind.slice (Kind.gW Qh (by rw[List.length_append];simp;omega));exact⟨a,_,c,e⟩
      have Ua:=DU.size;have O8:(w10.alloc (.cells #[.string x.fact.1,.slice sa9 x.fact.2.length sc9,.int .i64 x.rule,.slice ka9 x.kids.length kc9] 30)).heap.size=w10.heap.size+1:=by simp
      have Lx:w11.heap[bx]?=some (.cells #[.string fn,v1,.int .i64 rl,.slice ka kn kc] 30 (0,0)):=(DU.block bx (by omega) (fun e=>by have:=(uL bx e.symm).1;omega)).trans ((Below.heap_alloc w10 _ bx (by omega)).trans Ji);obtain⟨wN,hwN⟩:∃wN,wN=w11.setCell ⟨bx,3,none⟩ (.slice ka2 kn2 kc2):=⟨_,rfl⟩;have hTN:Tn bx w11 wN:=by rw[hwN];exact Tn.setCell (p:=bx) (Tn.refl _ _) (x:=⟨bx,3,none⟩) (Or.inl rfl) _
      have RS:wN.heap[bx]?=some (.cells #[.string fn,v1,.int .i64 rl,.slice ka2 kn2 kc2] 30 (0,0)):=by rw[hwN,dY (j:=3) Lx];rfl
      have UM:=hTN.size;have hPN:PvS (fun k=>((B k∧k≠w.heap.size∧k≠w.heap.size+1)∧k≠bx)∧(Value.slice ka2 kn2 kc2).ownBlock≠some k) wF wN P mb pv tv av sv (c9:Int) (d9:Int) n9 all how:=by
       have hSa:=hS9.below wM.below;have hSb:=hSa.mono (B':=fun k=>(((B k∧k≠w.heap.size∧k≠w.heap.size+1)∧k≠bx)∧(Value.slice ka kn kc).ownBlock≠some k)∧(Value.slice ka2 kn2 kc2).ownBlock≠some k) fun k hk hb=>⟨hb,fun e=>by
        rcases RQ k e with h|h
        ·exact hb.2 h
        ·omega⟩
       have hSc:=hSb.below ((Later.refl w10).alloc (.cells #[.string x.fact.1,.slice sa9 x.fact.2.length sc9,.int .i64 x.rule,.slice ka9 x.kids.length kc9] 30)).below;have hSd:=hSc.turned DU.os DU.tape DU.output DU.size fun k hk h=>DU.block k hk fun e=>by
        have ho:=uL k e.symm;rcases h with h|h|h|h
        ·omega
        ·omega
        ·omega
        ·exact h.1.2 e.symm
       have hSe:=hSd.turned hTN.os hTN.tape hTN.output hTN.size fun k hk h=>hTN.block k hk (by
        rcases h with h|h|h|h
        ·omega
        ·omega
        ·omega
        ·exact h.1.1.2)
       exact hSe.mono fun k _ hb=>⟨hb.1.1,hb.2⟩
      have hKN:Kq P mb w6 wN:=⟨(hTN.os.trans DU.os).trans Jj.os,(hTN.tape.trans DU.tape).trans Jj.tape,(hTN.output.trans DU.output).trans Jj.output,by have:=Jj.size;omega,fun k hk h1 h2=>
       ((hTN.block k (by have:=Jj.size;omega) (by omega)).trans (DU.block k (by have:=Jj.size;omega) (fun e=>by have:=(uL k e.symm).1;omega))).trans ((Below.heap_alloc w10 _ k (by have:=Jj.size;omega)).trans (Jj.block k hk h1 h2))⟩
      have RU:bsK.sl (jD v1) wN v1 aH:=Kind.aT HSl.out (by omega) fun k hk e=>by
       have hx:=HVx.out k e;exact((hTN.block k (by omega) hx.2.1).trans (DU.block k (by omega) (fun e'=>by have:=(uL k e'.symm).1;omega))).trans ((Below.heap_alloc w10 _ k (by omega)).trans ((wM.block (by omega)).trans (Jg.block k hk (by omega) (by omega))))
      have hON:(Ed (M+1)).own 30 w7.heap.size wN (.slice ka2 kn2 kc2) (done++[x]):=Kind.dB Qh hTN (by omega);obtain⟨_,⟨_,_,_⟩,_,_⟩:=iQ Ji;obtain⟨⟨l0,l1,l2,l3⟩,⟨l4,l5,l6⟩,_,_⟩:=iQ RL;obtain⟨⟨_,_,_,m3⟩,_,_,_⟩:=iQ Ji;obtain⟨⟨_,_,_,o3⟩,_,⟨_,_,_,t3⟩,_⟩:=iQ Lx;have Ub:=hide hrun;have Qg:=hide JZ;have HWN:=hide hwN;have HON:=hide hON;have HRN:=hide RS;have HPN:=hide hPN;have HKN:=hide hKN;have HSN:=hide RU;have HDN:Hid ((done++[x]).length=j+1):=by show _=_;rw[List.length_append,HDn.out];rfl
      have Q6:w7.heap.size≤wN.heap.size:=by omega
      clear hrun JZ hwN hON RS hPN hKN RU hTN Lx Ji RN DU Qh RQ hcx RO Jj wM RL hs9 hk9 hS9 hK9 Jg OB Me uL hdl i1 i2 i3 i4 O8 Ua Jf HO HS HDn HR HSl HK HPX HDr HOw RH
      go_wp2_with (first|(rw[←Qg.out])|(rw[←HWN.out])|(at_builtin;refine wpList_append_run rfl (.tmp 72) (.tmp 74) 28 rfl _ _ _ _ rfl rfl Ub.out ?_))
      go_roundg (of.length- (j+1))
      case measure=>omega
      case rel=>exact⟨j+1,done++[x],c9,d9,n9,ka2,kn2,kc2,by omega,by go_num,HDN,HON,HRN,HE,HPN,hn9,hbd.1,hbd.2,HKN,HSN,Q6⟩
    ·have hj0:j=of.length:=by omega
     have HE:Hid (PG=(some done,(cc,dd))):=by
      show _=_;rw[Jf.out,List.drop_eq_nil_of_le (by omega)];unfold pz iP;simp
     have HE2:Hid (bq how (M+1+1) (fn,aH) dep (c,d)=(some (bf.mk (fn,aH) rl done),(cc,dd))):=by
      show _=_;rw[HPG.out,HE.out];rfl
     obtain⟨⟨e0,e1,e2,e3⟩,⟨e4,e5,e6⟩,_,_⟩:=iQ HR.out;obtain⟨_,_,⟨t0,t1,t2,t3⟩,_⟩:=iQ Me;have hKw:Kq P mb w wr:=HK6.out.trans HK.out;have hT:=oD wr (w.heap.size+1) (.string fn) v1 (.int .i64 rl) (.slice ka kn kc);have HKf:=hide (HFin.out (.string fn) v1 (.int .i64 rl) (.slice ka kn kc) wr Me hKw);have HPf:=hide ((HTu.out _ _ _ _ (.string fn) v1 (.int .i64 rl) (.slice ka kn kc) wr (fun k hb=>hb.1.1.2.2) HS.out).mono (B':=B) fun k _ hb=>hb.1.1.1);have HZ:=hide (iQ (iZ Me (.string fn) v1 (.int .i64 rl) (.slice ka kn kc))).1;have HVf:Hid (JX (M+1) (From w.heap.size) (uJ wr (w.heap.size+1) (.string fn) v1 (.int .i64 rl) (.slice ka kn kc)) (.agg #[.string fn,v1,.int .i64 rl,.slice ka kn kc]) (bf.mk (fn,aH) rl done)):=by
      have ho:=Kind.gW (Kind.dB HO.out hT (by omega)) (by have:=HDn.out;omega);refine⟨v1,.slice ka kn kc,rfl,Kind.aW (Kind.aT HSl.out hT.size fun k hk e=>hT.block k hk (by have:=(HVx.out k e).1;omega)) fun k _ e=> ?_,Kind.aW ho fun k _ (hb:w7.heap.size≤k)=> ?_,Je (Kind.dB HO.out hT (by omega))⟩
      ·show w.heap.size≤k;have:=(HVx.out k e).1;omega
      ·show w.heap.size≤k;omega
     clear hj0 Jf HE hT hKw Me HO HS HIh;subst RD;go_wp2;obtain⟨z0,z1,z2,z3⟩:=HZ.out;unfold uJ at z0 z1 z2 z3;refine bodyPost_ret (v:=.tuple #[.agg #[.string fn,.slice xa aH.length xc,.int .i64 rl,.slice ka kn kc],.int .i64 0]) (by simp[results,Tryz.results60,go_sem,z0,z1,z2,z3]) rfl ⟨_,0,nn,rfl,?_,?_,?_,HKf.out⟩
     ·rw[HE2.out];exact⟨rfl,HVf.out⟩
     ·rw[HE2.out];exact HPf.out
     ·rw[HE2.out];exact hnn
end Go.Proofs.YtafmbokfkbccaaaGreatDoor
namespace Go.Proofs.YtafmbokfkbccaaaGreatDoor
open Go.RowKit Go.Sort Go.Maps
def dP (p:List aA) (told:List aj):List (List aj):=(bg p (aS p).1 (countP (aS p).1) 0 told).2
theorem ze {p:List aA} {all:List aj}:∀{ps:List (List aj)} {L:List aj},Steps (Came p all) L ps→GoodS p (aX L ps)→∀l∈L::ps,GoodS p l
 |[],L,_,hg,l,hl=>by
  simp at hl;subst hl;exact hg
 |M::ps,L,hs,hg,l,hl=>by
  rw[gB] at hg;rcases List.mem_cons.1 hl with rfl|hl
  ·exact hs.1.1
  ·exact ze hs.2 hg l hl
theorem Jk {p:List aA} {all:List aj} (h:GoodS p all) (b:List aF):lu all b=0↔aL b=0:=by
 show pO b all []=0↔_;unfold pO;rw[lZ h.up h.right h.few];have e:(bF []).1=0:=rfl
 by_cases hb:aL b=0
 ·rw[if_neg (by simpa using hb),if_neg (by simp),e];simp[hb]
 ·rw[if_pos hb]
theorem rW {g:aA→Option (List aj)} {n:Nat}:∀(p:List aA) (i:Nat),(∀r∈p,∀of,g r=some of→of.length≤n)→(jh g i p).2.length≤n
 |[],i,_=>by simp[jh]
 |r::p,i,h=>by
  unfold jh;cases e:g r with
  |none=>exact rW p (i+1) fun q hq=>h q (by simp[hq])
  |some of=>exact h r (by simp) of e
theorem LA {err:List aF→Int} {all old:List aj} {r:aA} {f:aj} {of:List aj} (h:byP err all old r f=some of):of.length≤r.body.length:=by
 unfold byP at h;cases hm:dL r.head f [] with
 |none=>rw[hm] at h;cases h
 |some b=>
  rw[hm] at h;have:=List.mem_of_find?_eq_some h;obtain⟨l,_,rfl⟩:=List.mem_map.1 this;have:=mg (dS b r.body) l;unfold dS at this;rw[List.length_map] at this;exact this
theorem nJ {p:List aA} {told:List aj} (h:gq p told=0):
  cZ p∧GoodS p told∧GoodS p (aX told (dP p told))∧kS p told=(0,aX told (dP p told))∧Ky p told (aX told (dP p told)) (mX (lu (aX told (dP p told))) p told (aX told (dP p told)) (told::dP p told))∧
  (∀l∈told::dP p told,fI l)∧(told::dP p told).length≤1000000∧(∀f∈aX told (dP p told),inB told f=false→1≤gN (told::dP p told) f∧gN (told::dP p told) f<(told::dP p told).length)∧
  (∀r∈p,r.head.terms.length≤4∧r.body.length≤5∧∀a∈r.body,a.terms.length≤4)∧(∀f∈aX told (dP p told),(∀g∈(mX (lu (aX told (dP p told))) p told (aX told (dP p told)) (told::dP p told) f).2,g∈aX told (dP p told))∧(mX (lu (aX told (dP p told))) p told (aX told (dP p told)) (told::dP p told) f).2.length≤1000):=by
 have hall:kS p told=(0,aX told (dP p told)):=(iC p told).2 h;obtain⟨hp,hl,τ,hτ,hst,hr⟩:=AA hall;obtain⟨_,_,hgM,_,_⟩:=rP hall;have hrun:bg p (p.map fun r=>τ r.head.name) (countP (p.map fun r=>τ r.head.name)) 0 told=(0,dP p told):=by
  have h1:=pJ p (p.map fun r=>τ r.head.name) (countP (p.map fun r=>τ r.head.name)) 0 told;rw[hr] at h1;refine Prod.ext h1.1.symm ?_;unfold dP;rw[hst]
 have hsteps:=BG hp hτ _ 0 hl hrun;have yw:∀r∈p,eu (fun _=>aX told (dP p told)) 0 r.body [[]]≠none:=fun r hr'=>vU hp hτ _ 0 hl hrun r hr' (Nat.zero_le _) (by rw[Nat.zero_add];exact kH (List.mem_map.2 ⟨r,hr',rfl⟩));have He:=MR hp (err:=lu (aX told (dP p told))) (Jk hgM) hsteps yw;have hsh:∀r∈p,r.head.terms.length≤4∧r.body.length≤5∧∀a∈r.body,a.terms.length≤4:=fun r hr'=>by
  have hR:=hp.rules r hr';obtain⟨b1,b2⟩:=jH hR.body;exact⟨(bL hR.head).2.1,b1,fun a ha=>(bL (b2 a ha)).2.1⟩
 refine⟨hp,hl,hgM,hall,He,fun l hl'=>(ze hsteps hgM l hl').up,?_,fun f hf hn=> ?_,hsh,fun f hf=>⟨?_,?_⟩⟩
 ·have h1:=AL (p:=p) (ss:=p.map fun r=>τ r.head.name) (countP (p.map fun r=>τ r.head.name)) 0 told;rw[hrun] at h1;have h2:countP (p.map fun r=>τ r.head.name)≤16:=by
   rw[←hst];obtain⟨ss,ex,ea,hse⟩:∃ss ex ea,aS p=(ss,ex,ea):=⟨_,_,_,rfl⟩;have hx:ex=0:=by
    refine Classical.byContradiction fun hne=> ?_;unfold gq at h;rw[hse] at h;dsimp only at h;rw[if_pos hne] at h;exact hne h
   subst hx;rw[hse];obtain⟨_,m,hms,_,hlm,hsm⟩:=kV hse;refine countP_le fun s hs=> ?_;rw[hms] at hs;obtain⟨r,hr',rfl⟩:=List.mem_map.1 hs;have:=rD hlm hsm r hr';have:=hp.few;omega
  have h3:=Nat.mul_le_mul_right 201 h2;dsimp only at h1;simp only[List.length_cons];omega
 ·have hn':f∉told:=fun hc=>by rw[aO.2 hc] at hn;cases hn
  obtain⟨_,_,_,_,_,_,h5,h6⟩:=Ab hsteps hf hn';exact⟨h5,h6⟩
 ·rcases He.ok f hf with⟨_,e⟩|⟨i,r,of,_,e,_,hk⟩
  ·rw[e];intro k hk;cases hk
  ·rw[e];exact hk
 ·unfold mX;split
  ·simp
  ·refine rW p 0 fun r hr' of hof=> ?_;have:=LA hof;have:=(hsh r hr').2.1;omega
theorem BZ (w0 wF:World) (P lo mb:Nat) (p:List aA) (told all:List aj) (PS:List (List aj)) (pv tv av sv:Value) (xs:List Value) (hG:Gq w0 wF P lo mb p told all PS pv tv av sv xs):∀N,Gs all P mb pv tv av sv wF (mX (lu all) p told all PS) (N+1)
 |0=>uK w0 wF P lo mb p told all PS pv tv av sv xs hG 0 (fun h=>absurd h (by omega))
 |N+1=>uK w0 wF P lo mb p told all PS pv tv av sv xs hG (N+1) fun _=>BZ w0 wF P lo mb p told all PS pv tv av sv xs hG N
end Go.Proofs.YtafmbokfkbccaaaGreatDoor
