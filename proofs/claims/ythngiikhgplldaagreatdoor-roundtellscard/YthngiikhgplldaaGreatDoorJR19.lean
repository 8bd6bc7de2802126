import Derived.Test.YthngiikhgplldaaGreatDoorJR18
import Derived.BigQuiet
open Go.RowKit Go.Sort Go.Maps
set_option maxHeartbeats 4000000
set_option maxRecDepth 100000
namespace Go.Proofs.YthngiikhgplldaaGreatDoor
theorem xO (p:List aD) (hp:fG p) (pv fv:Value) (l:List aF) (w:World) (hv:iy.sl bT w pv p) (hf:Facts w fv l):
  Calls Tryz.prog 31 #[pv,fv] w fun e w'=>e=.returned (.agg #[.int .i64 (dP p l).1,.int .i64 (dP p l).2])∧Below w.heap.size w w':=by
 obtain⟨pa,pc,rfl⟩:=aB.slice hv;obtain⟨a,cap,rfl,hln,hz⟩:=hf.addr;have hL0:aj w (w.alloc (.cells #[.int .i64 0,.int .i64 0] 41)):=(aj.refl w).alloc _;have hR0:(w.alloc (.cells #[.int .i64 0,.int .i64 0] 41)).heap[w.heap.size]?=some (.cells #[.int .i64 0,.int .i64 0] 41 (0,0)):=heap_alloc_new w _;have BQ:=au (I9 (.slice a l.length cap) l (w.alloc (.cells #[.int .i64 0,.int .i64 0] 41)) (hf.later hL0));have HL0:=au hL0;have HR0:=au hR0;have HV:=au hv;have HF:=au hf;have HRP:=au hp;clear hv hf hp hL0 hR0;obtain⟨ex,ea,hse⟩:∃ex ea,aR l=(ex,ea):=⟨_,_,rfl⟩;rw[hse] at BQ;have HSE:=au hse;clear hse
 go_enter Tryz.func31,Tryz.ntmps31
 go_wp2_with fail
 refine BQ.out.mono ?_;rintro e w1 ⟨rfl,hL1⟩;dsimp only;have hs1:w.heap.size<w1.heap.size:=by have:=hL1.size;simp at this;omega
 have HR1:Hid (w1.heap[w.heap.size]?=some (.cells #[.int .i64 0,.int .i64 0] 41 (0,0))):=by show _=_;rw[hL1.block (by simp)];exact HR0.out
 have HL1:Hid (aj w w1):=HL0.out.trans hL1;clear hL1 BQ HL0 HR0
 by_cases h0:ex=0
 ·subst h0;have HX:Hid (dP p l=gL p l l.length 0):=by show _=_;unfold dP;rw[HSE.out,if_neg (by simp)]
  have hsr:=set_right (l:=l) (by rw[HSE.out]);have HSR:=au hsr.2.2;obtain⟨hn5,KT⟩:=xM HRP.out;obtain⟨w2,hw2⟩:∃w2,w2=w1.alloc (.cells #[.int .i64 0,.int .i64 ea] 41):=⟨_,rfl⟩;have hL2:aj w1 w2:=by rw[hw2];exact(aj.refl _).alloc _
  have hB2:Below w.heap.size w w2:=(HL1.out.trans hL2).below;have HW:=au (BP p (.slice pa p.length pc) w2 (aB.aO HV.out hB2) HRP.out.few hn5 KT);have HB2:=au hB2;have HR2:Hid (w2.heap[w.heap.size]?=some (.cells #[.int .i64 0,.int .i64 0] 41 (0,0))):=by show _=_;rw[hL2.block hs1];exact HR1.out
  have hs2:w.heap.size<w2.heap.size:=by have:=hL2.size;omega
  have HW2:=au hw2;clear hsr hn5 KT hL2 hB2 hw2 HSE HR1 HL1 HRP
  go_wp2_with fail
  rw[←HW2.out];refine HW.out.mono ?_;rintro e w3 ⟨n,m,rfl,hM3,hO3,hB3⟩;have HM3:=au hM3;have Mt:Hid (∀f,qd m f=uH p f):=fun f=>FY hO3 f;have HB3:Hid (Below w.heap.size w w3):=ak HB2.out hB3 HB2.out.size;have HR3:Hid (w3.heap[w.heap.size]?=some (.cells #[.int .i64 0,.int .i64 0] 41 (0,0))):=by show _=_;rw[hB3.block _ hs2];exact HR2.out
  have hs3:w.heap.size<w3.heap.size:=by have:=hB3.size;omega
  generalize w2.heap.size=bm at*;clear hM3 hO3 hB3 HB2 HR2 HW HW2 hs2 hs1;go_wp2
  go_loopg [19] l.length (fun g i wr=>∃j k:Nat,k=g∧j+k=l.length∧i=.int .i64 j∧Hid (aj w3 wr)∧Hid (dP p l=gL p l k j))
  case atStart=>exact⟨0,l.length,rfl,by omega,rfl,aj.refl _,HX⟩
  clear HX;obtain⟨j,k,hkg,hj,rfl,HL,HX⟩:=hrel;have hRr:wr.heap[w.heap.size]?=some (.cells #[.int .i64 0,.int .i64 0] 41 (0,0)):=by rw[HL.out.block hs3];exact HR3.out
  have hsr:w.heap.size<wr.heap.size:=by have:=HL.out.size;omega
  by_cases hlt:j<l.length
  ·rcases hz with rfl|⟨b,off,rfl⟩;·simp at hlt
   have hltz:(j:Int)<(l.length:Int):=by omega
   have hFr:Facts wr (.slice (some ⟨b,off,none⟩) l.length cap) l:=HF.out.below (ak HB3.out HL.out.below HB3.out.size);obtain⟨hb,ax,lx,cx,g1,g2,fx⟩:=hFr.at hlt;have hfm:l.getD j aA∈l:=by rw[List.getD_eq_getElem?_getD,List.getElem?_eq_getElem hlt];exact List.getElem_mem hlt
   have hfs:=pY (iP.1 (HSR.out _ hfm));obtain⟨wb,hwb⟩:∃wb,wb=wr.alloc (.cells #[.string (l.getD j aA).1,.slice ax lx cx] 50):=⟨_,rfl⟩;have hLb:aj wr wb:=by rw[hwb];exact(aj.refl _).alloc _
   have HC:=au (FV bm n m (l.getD j aA) (.agg #[.string (l.getD j aA).1,.slice ax lx cx]) wb (HM3.out.later (HL.out.trans hLb)) (fx.later hLb) (by have:=hfs.1;unfold maxLen;omega));rw[Mt.out] at HC;obtain⟨g,rfl⟩:∃g,k=g+1:=⟨k-1,by omega⟩;have hX:dP p l=if uH p (l.getD j aA)=true then gL p l g (j+1) else(8,j):=by rw[HX.out];rfl
   have HLb:Hid (aj w3 wb):=HL.out.trans hLb;have HRb:Hid (wb.heap[w.heap.size]?=some (.cells #[.int .i64 0,.int .i64 0] 41 (0,0))):=by show _=_;rw[hLb.block hsr];exact hRr
   have hsb:w.heap.size<wb.heap.size:=by have:=hLb.size;omega
   have HWb:=au hwb;generalize hff:uH p (l.getD j aA)=ft at*;generalize(l.getD j aA).1=nk at*;clear hff hFr fx hfm hfs hLb hwb hRr HX;cases ft with
   |true=>
    have HX':Hid (dP p l=gL p l g (j+1)):=by show _=_;rw[hX];rfl
    clear hX
    go_wp2_with fail
    rw[←HWb.out];refine HC.out.mono ?_;rintro e w5 ⟨rfl,hL5⟩;have HL5:Hid (aj w3 w5):=HLb.out.trans hL5;clear hL5 HC;go_wp2
    go_roundg g
    case measure=>omega
    case rel=>exact⟨j+1,g,rfl,by omega,by go_num,HL5,HX'⟩
   |false=>
    have HX':Hid (dP p l=(8,(j:Int))):=by show _=_;rw[hX];rfl
    clear hX
    go_wp2_with fail
    rw[←HWb.out];refine HC.out.mono ?_;rintro e w5 ⟨rfl,hL5⟩;have HL5:Hid (aj w3 w5):=HLb.out.trans hL5;have hR5:w5.heap[w.heap.size]?=some (.cells #[.int .i64 0,.int .i64 0] 41 (0,0)):=by rw[hL5.block hsb];exact HRb.out
    have q0:w5.cell? ⟨w.heap.size,0,none⟩=some (.int .i64 0):=by rw[cell_of_row _ _ _ _ _ _ hR5];rfl
    have q1:w5.cell? ⟨w.heap.size,1,none⟩=some (.int .i64 0):=by rw[cell_of_row _ _ _ _ _ _ hR5];rfl
    have p0:w5.frozen? ⟨w.heap.size,0,none⟩=false:=aP 0 hR5;have p1:w5.frozen? ⟨w.heap.size,1,none⟩=false:=aP 1 hR5;have HR5:=au hR5;clear hL5 HC hR5;go_wp2;obtain⟨r0,r1⟩:=cu HR5.out (.int .i64 8) (.int .i64 j);refine bodyPost_ret (v:=.agg #[.int .i64 8,.int .i64 j]) (by simp[results,Tryz.results31,go_sem,r0,r1]) rfl ⟨by rw[HX'.out],?_⟩;exact((ak HB3.out HL5.out.below HB3.out.size).setCell (Nat.le_refl _) _).setCell (Nat.le_refl _) _
  have hk0:k=0:=by omega
  have HX':Hid (dP p l=(0,0)):=by show _=_;rw[HX.out,hk0];rfl
  have q0:wr.cell? ⟨w.heap.size,0,none⟩=some (.int .i64 0):=by rw[cell_of_row _ _ _ _ _ _ hRr];rfl
  have q1:wr.cell? ⟨w.heap.size,1,none⟩=some (.int .i64 0):=by rw[cell_of_row _ _ _ _ _ _ hRr];rfl
  have p0:wr.frozen? ⟨w.heap.size,0,none⟩=false:=aP 0 hRr;have p1:wr.frozen? ⟨w.heap.size,1,none⟩=false:=aP 1 hRr;have HRr:=au hRr;clear hRr HX;go_wp2;obtain⟨r0,r1⟩:=cu HRr.out (.int .i64 0) (.int .i64 0);refine bodyPost_ret (v:=.agg #[.int .i64 0,.int .i64 0]) (by simp[results,Tryz.results31,go_sem,r0,r1]) rfl ⟨by rw[HX'.out],?_⟩;exact((ak HB3.out HL.out.below HB3.out.size).setCell (Nat.le_refl _) _).setCell (Nat.le_refl _) _
 have HX:Hid (dP p l=(ex,ea)):=by show _=_;unfold dP;rw[HSE.out,if_pos h0]
 have hq:(ex != 0)=true:=by simpa using h0
 have hR2:=HR1.out;have q0:w1.cell? ⟨w.heap.size,0,none⟩=some (.int .i64 0):=by rw[cell_of_row _ _ _ _ _ _ hR2];rfl
 have q1:w1.cell? ⟨w.heap.size,1,none⟩=some (.int .i64 0):=by rw[cell_of_row _ _ _ _ _ _ hR2];rfl
 have p0:w1.frozen? ⟨w.heap.size,0,none⟩=false:=aP 0 hR2;have p1:w1.frozen? ⟨w.heap.size,1,none⟩=false:=aP 1 hR2;clear hR2 HSE h0 HV HF;go_wp2;obtain⟨r0,r1⟩:=cu HR1.out (.int .i64 ex) (.int .i64 ea);have hBX:Below w.heap.size w ((w1.setCell ⟨w.heap.size,0,none⟩ (.int .i64 ex)).setCell ⟨w.heap.size,1,none⟩ (.int .i64 ea)):=(HL1.out.below.setCell (Nat.le_refl _) _).setCell (Nat.le_refl _) _;have hzX:w.heap.size<((w1.setCell ⟨w.heap.size,0,none⟩ (.int .i64 ex)).setCell ⟨w.heap.size,1,none⟩ (.int .i64 ea)).heap.size:=by rw[size_setCell,size_setCell];exact hs1
 generalize(w1.setCell ⟨w.heap.size,0,none⟩ (.int .i64 ex)).setCell ⟨w.heap.size,1,none⟩ (.int .i64 ea)=wx at*;have s0:(wx.alloc (.cells #[.int .i64 ex,.int .i64 ea] 41)).cell? ⟨w.heap.size,0,none⟩=some (.int .i64 ex):=by rw[((aj.refl wx).alloc _).cell (p:=⟨w.heap.size,0,none⟩) hzX];exact r0
 have s1:(wx.alloc (.cells #[.int .i64 ex,.int .i64 ea] 41)).cell? ⟨w.heap.size,1,none⟩=some (.int .i64 ea):=by rw[((aj.refl wx).alloc _).cell (p:=⟨w.heap.size,1,none⟩) hzX];exact r1
 refine bodyPost_ret (v:=.agg #[.int .i64 ex,.int .i64 ea]) (by simp[results,Tryz.results31,go_sem,s0,s1]) rfl ⟨by rw[HX.out],?_⟩;exact hBX.alloc hBX.size _
theorem foldl_max (ss:List Nat):∀s:Nat,(ss.map fun x:Nat=>(x:Int)).foldl max (s:Int)+1=(max (s+1) (countP ss):Nat):=by
 induction ss with
 |nil=>intro s;simp[countP]
 |cons t ss ih=>
  intro s;rw[List.map_cons,List.foldl_cons,show(max (s:Int) (t:Int))=((max s t:Nat):Int) by omega,ih];simp only[countP];omega
theorem countP_le {c:Nat}:∀{ss:List Nat},(∀s∈ss,s<c)→countP ss≤c
 |[],_=>Nat.zero_le _
 |s::ss,h=>by have h1:=h s (by simp);have h2:=countP_le (ss:=ss) fun t ht=>h t (by simp[ht]);simp only[countP];omega
theorem BR (ss:List Nat) (v:Value) (w:World) (hv:jL.sl bT w v ss) (hs:∀s∈ss,s<1000):
  Calls Tryz.prog 15 #[v] w fun e w'=>e=.returned (.int .i64 (countP ss:Nat))∧aj w w':=by
 obtain⟨a,cap,rfl⟩:=aB.slice hv;have hl:=hv.1.1;cases ss with
 |nil=>
  clear hv hs
  go_enter Tryz.func15,Tryz.ntmps15
  go_wp2;go_ret;exact⟨rfl,aj.refl _⟩
 |cons s ss=>
  obtain⟨b,off,_,rfl,hb,_,_⟩:=aB.bR hv (i:=0) (x:=s) rfl;have hM:=Tryz.slices_Max_int b off (s::ss).length cap ((s::ss).map fun x:Nat=>(x:Int)) w (by simp) (by simp) (by omega) (fun j hj=>by rw[List.length_map] at hj;obtain⟨x,hx⟩:∃x,(s::ss)[j]?=some x:=⟨_,List.getElem?_eq_getElem hj⟩;obtain⟨b1,o1,_,e1,_,rfl,hc⟩:=aB.bR hv hx;simp only[Option.some.injEq,Addr.mk.injEq,and_true] at e1;obtain⟨rfl,rfl⟩:=e1;rw[List.getD_eq_getElem?_getD,List.getElem?_map,hx];simpa[jL] using hc 0 _ rfl)
  have e:Lib.maxOf (((s::ss).map fun x:Nat=>(x:Int)).take (s::ss).length)+1=(countP (s::ss):Nat):=by
   rw[List.take_of_length_le (by simp)];unfold Lib.maxOf;rw[List.map_cons,List.headD_cons,List.foldl_cons,show max (s:Int) (s:Int)=(s:Int) by omega,foldl_max]
   rfl
  have hcp:countP (s::ss)≤1000:=countP_le hs;generalize Lib.maxOf (((s::ss).map fun x:Nat=>(x:Int)).take (s::ss).length)=mx at*;generalize countP (s::ss)=cp at*;have hmx:mx=(cp:Int)-1:=by omega
  subst hmx;have HM:=au hM;have hne:¬((((s::ss).length:Nat):Int)=0):=by simp;omega
  clear hv hs hM e
  go_enter Tryz.func15,Tryz.ntmps15
  go_wp2_with fail
  refine HM.out.mono ?_;rintro e w1 ⟨rfl,rfl⟩;go_wp2;go_ret;refine⟨?_,aj.refl _⟩
  congr 2
def qL (w:World) (v:Value) (r:gM):Prop:=∃kv nv,v=.agg #[kv,nv,.int .i64 r.level,.int .i64 r.rounds,.bool r.done]∧Facts w kv r.known∧Facts w nv r.fresh
def ou (b:Nat) (w:World) (v:Value) (r:gM):Prop:=∃kv nv,v=.agg #[kv,nv,.int .i64 r.level,.int .i64 r.rounds,.bool r.done]∧dR w b kv r.known∧dR w b nv r.fresh
theorem ou.none (b:Nat) (w:World):ou b w (.agg #[.slice none 0 0,.slice none 0 0,.int .i64 0,.int .i64 0,.bool false]) cK:=⟨_,_,rfl,dR.nil _ _,dR.nil _ _⟩
theorem qL.below {w w':World} {v:Value} {r:gM} (h:qL w v r) (k:Below w.heap.size w w'):qL w' v r:=by obtain⟨kv,nv,h1,h2,h3⟩:=h;exact⟨kv,nv,h1,h2.below k,h3.below k⟩
theorem ou.stay {b:Nat} {w w':World} {v:Value} {r:gM} (h:ou b w v r) (hs:w.heap.size≤w'.heap.size) (hk:∀k,k<w.heap.size→b≤k→w'.heap[k]?=w.heap[k]?):ou b w' v r:=by obtain⟨kv,nv,h1,h2,h3⟩:=h;exact⟨kv,nv,h1,h2.stay hs hk,h3.stay hs hk⟩
theorem ou.base {b b':Nat} {w:World} {v:Value} {r:gM} (h:ou b w v r) (hb:b'≤b):ou b' w v r:=by obtain⟨kv,nv,h1,h2,h3⟩:=h;exact⟨kv,nv,h1,h2.base hb,h3.base hb⟩
theorem dQ {w:World} {R:Nat} {u0 u1 u2 u3 u4:Value} {t:TypeId} (h:w.heap[R]?=some (.cells #[u0,u1,u2,u3,u4] t (0,0))):w.cell? ⟨R,0,none⟩=some u0∧w.cell? ⟨R,1,none⟩=some u1∧w.cell? ⟨R,2,none⟩=some u2∧w.cell? ⟨R,3,none⟩=some u3∧w.cell? ⟨R,4,none⟩=some u4∧
  (w.frozen? ⟨R,0,none⟩=false∧w.frozen? ⟨R,1,none⟩=false∧w.frozen? ⟨R,2,none⟩=false∧w.frozen? ⟨R,3,none⟩=false∧w.frozen? ⟨R,4,none⟩=false)∧R<w.heap.size:=
 ⟨by rw[cell_of_row _ _ _ _ _ _ h];rfl,by rw[cell_of_row _ _ _ _ _ _ h];rfl,by rw[cell_of_row _ _ _ _ _ _ h];rfl,by rw[cell_of_row _ _ _ _ _ _ h];rfl,by rw[cell_of_row _ _ _ _ _ _ h];rfl,
  ⟨by simp[World.frozen?,h],by simp[World.frozen?,h],by simp[World.frozen?,h],by simp[World.frozen?,h],by simp[World.frozen?,h]⟩,(Array.getElem?_eq_some_iff.1 h).1⟩
def cO (w:World) (R:Nat) (x0 x1 x2 x3 x4:Value):World:=((((w.setCell ⟨R,0,none⟩ x0).setCell ⟨R,1,none⟩ x1).setCell ⟨R,2,none⟩ x2).setCell ⟨R,3,none⟩ x3).setCell ⟨R,4,none⟩ x4
theorem gq {w:World} {R:Nat} {u0 u1 u2 u3 u4:Value} {t:TypeId} (h:w.heap[R]?=some (.cells #[u0,u1,u2,u3,u4] t (0,0))) (x0 x1 x2 x3 x4:Value):
  (cO w R x0 x1 x2 x3 x4).heap[R]?=some (.cells #[x0,x1,x2,x3,x4] t (0,0)):=by
 unfold cO;rw[dW (j:=4) (dW (j:=3) (dW (j:=2) (dW (j:=1) (dW (j:=0) h x0) x1) x2) x3) x4]
 rfl
theorem bA (w:World) (R:Nat) (x0 x1 x2 x3 x4:Value):Tn R w (cO w R x0 x1 x2 x3 x4):=
 (((((Tn.refl R w).setCell (Or.inl rfl) _).setCell (Or.inl rfl) _).setCell (Or.inl rfl) _).setCell (Or.inl rfl) _).setCell (Or.inl rfl) _
theorem lI {w:World} {R:Nat} {u0 u1 u2 u3 u4:Value} {t:TypeId} (h:w.heap[R]?=some (.cells #[u0,u1,u2,u3,u4] t (0,0))) (x0 x1 x2 x3 x4:Value):
  (((((w.setCell ⟨R,0,none⟩ x0).setCell ⟨R,1,none⟩ x1).setCell ⟨R,2,none⟩ x2).setCell ⟨R,3,none⟩ x3).setCell ⟨R,4,none⟩ x4).cell? ⟨R,0,none⟩=some x0∧
  (((((w.setCell ⟨R,0,none⟩ x0).setCell ⟨R,1,none⟩ x1).setCell ⟨R,2,none⟩ x2).setCell ⟨R,3,none⟩ x3).setCell ⟨R,4,none⟩ x4).cell? ⟨R,1,none⟩=some x1∧
  (((((w.setCell ⟨R,0,none⟩ x0).setCell ⟨R,1,none⟩ x1).setCell ⟨R,2,none⟩ x2).setCell ⟨R,3,none⟩ x3).setCell ⟨R,4,none⟩ x4).cell? ⟨R,2,none⟩=some x2∧
  (((((w.setCell ⟨R,0,none⟩ x0).setCell ⟨R,1,none⟩ x1).setCell ⟨R,2,none⟩ x2).setCell ⟨R,3,none⟩ x3).setCell ⟨R,4,none⟩ x4).cell? ⟨R,3,none⟩=some x3∧
  (((((w.setCell ⟨R,0,none⟩ x0).setCell ⟨R,1,none⟩ x1).setCell ⟨R,2,none⟩ x2).setCell ⟨R,3,none⟩ x3).setCell ⟨R,4,none⟩ x4).cell? ⟨R,4,none⟩=some x4:=by
 have:=dQ (gq h x0 x1 x2 x3 x4);unfold cO at this;exact⟨this.1,this.2.1,this.2.2.1,this.2.2.2.1,this.2.2.2.2.1⟩
theorem dR.put {base R j:Nat} {w:World} {v x:Value} {l:List aG} (h:dR w base v l) (hR:R<base):dR (w.setCell ⟨R,j,none⟩ x) base v l:=
 h.stay (by rw[size_setCell];exact Nat.le_refl _) fun k _ hk=>heap_setCell_other _ _ _ (by show k≠R;omega)
theorem dR.cO {base R:Nat} {w:World} {v x0 x1 x2 x3 x4:Value} {l:List aG} (h:dR w base v l) (hR:R<base):dR (cO w R x0 x1 x2 x3 x4) base v l:=
 ((((h.put hR).put hR).put hR).put hR).put hR
theorem Below.put {n R j:Nat} {a b:World} {x:Value} (h:Below n a b) (hR:n≤R):Below n a (b.setCell ⟨R,j,none⟩ x):=h.setCell hR x
theorem Below.cO {n R:Nat} {a b:World} {x0 x1 x2 x3 x4:Value} (h:Below n a b) (hR:n≤R):Below n a (cO b R x0 x1 x2 x3 x4):=
 ((((Below.put h hR).setCell hR _).setCell hR _).setCell hR _).setCell hR _
theorem BS {K D acc:List aF} (hK:Up K) (h:om K D acc):(200<(bY (K++D)).length→200<(bY (K++acc)).length)∧(¬200<(bY (K++D)).length→bY (K++D)=bY (K++acc)∧D=gB K acc):=by
 constructor
 ·intro h1;have:=vo (gI (K++D)) (t:=bY (K++acc)) fun f hf=>dA.2 (by
   rcases List.mem_append.1 (dA.1 hf) with h2|h2;·exact List.mem_append.2 (Or.inl h2)
   exact List.mem_append.2 (Or.inr (h.of f h2).1))
  omega
 intro h1;have hnd:(K++D).Nodup:=List.nodup_append.2 ⟨ku hK,ku h.up,fun a ha b hb e=>(h.of b hb).2 (e▸ha)⟩;have h2:=mV hnd (t:=bY (K++D)) fun f hf=>dA.2 hf;rw[List.length_append] at h2;have hall:=h.all (by omega);refine⟨jh fun f=>?_,?_⟩
 ·rw[List.mem_append,List.mem_append]
  constructor
  ·rintro(h3|h3);·exact Or.inl h3
   exact Or.inr (h.of f h3).1
  rintro(h3|h3);·exact Or.inl h3
  by_cases h4:f∈K
  ·exact Or.inl h4
  exact Or.inr (hall f h3 h4)
 exact yA h.up (gI _) fun f=>by show f∈D↔f∈gB K acc;rw[mE];exact⟨fun h3=>h.of f h3,fun h3=>hall f h3.1 h3.2⟩
def ug (b:Nat) (w:World) (v:Value) (er:Int) (x:Int×gM):Prop:=er=x.1∧ou b w v x.2
theorem JZ (p:List aD) (hp:fG p) (σ:aD→Nat) (r:gM) (hr:jG p (countP (p.map σ)) r) (hd:r.done=false) (hσ:∀s∈p.map σ,s<1000) (pv sv kv nv:Value) (w:World) (hpv:iy.sl bT w pv p) (hsv:jL.sl bT w sv (p.map σ)) (hk:Facts w kv r.known) (hn:Facts w nv r.fresh):
  Calls Tryz.prog 29 #[pv,sv,.agg #[kv,nv,.int .i64 r.level,.int .i64 r.rounds,.bool r.done]] w fun e w'=>∃v' er,e=.returned (.tuple #[v',.int .i64 er])∧ug (w.heap.size+2) w' v' er (fB p (p.map σ) r)∧Below w.heap.size w w':=by
 have Ja:=hr.lev;have hrnd:=hr.rnd;have hcs:countP (p.map σ)≤1000:=countP_le hσ;have HG:=au hr.good;have HUp:=au hr.up;have HSub:=au hr.sub;obtain⟨K,N,lev,rn,dn⟩:=r;dsimp only at*;subst hd;have Ng:=HG.out.few;clear hr;obtain⟨pa,pc,rfl⟩:=aB.slice hpv;obtain⟨sa,sc,hsa⟩:=aB.slice hsv;subst hsa;obtain⟨ka,kc,rfl⟩:=aC hk;obtain⟨na,nc,rfl⟩:=aC hn;obtain⟨w2,hw2⟩:∃w2,w2=(w.alloc (.cells #[.slice ka K.length kc,.slice na N.length nc,.int .i64 lev,.int .i64 rn,.bool false] 26)).alloc (.cells #[.slice none 0 0,.slice none 0 0,.int .i64 0,.int .i64 0,.bool false] 26):=⟨_,rfl⟩;have hL2:aj w w2:=by rw[hw2];exact((aj.refl w).alloc _).alloc _
 have hz2:w2.heap.size=w.heap.size+2:=by rw[hw2];simp
 have HRb:Hid (w2.heap[w.heap.size]?=some (.cells #[.slice ka K.length kc,.slice na N.length nc,.int .i64 lev,.int .i64 rn,.bool false] 26 (0,0))):=by show _=_;rw[hw2,Below.heap_alloc _ _ _ (by simp)];exact heap_alloc_new w _
 have HRs:Hid (w2.heap[w.heap.size+1]?=some (.cells #[.slice none 0 0,.slice none 0 0,.int .i64 0,.int .i64 0,.bool false] 26 (0,0))):=by show _=_;have:=heap_alloc_new (w.alloc (.cells #[.slice ka K.length kc,.slice na N.length nc,.int .i64 lev,.int .i64 rn,.bool false] 26)) (.cells #[.slice none 0 0,.slice none 0 0,.int .i64 0,.int .i64 0,.bool false] 26);rw[hw2];simpa using this
 have HMk:=au (Im p hp σ ⟨K,N,lev,rn,false⟩ HG.out HUp.out HSub.out (.slice pa p.length pc) (.slice sa (p.map σ).length sc) (.slice ka K.length kc) (.slice na N.length nc) w2 (aB.aS hpv hL2) (aB.aS hsv hL2) (hk.later hL2) (hn.later hL2));have HK2:=au (hk.later hL2);have HSV:=au hsv;have HL2:=au hL2;have Jd:=au hσ;have HGN:=au HG.out.up;generalize hss:p.map σ=ss at*;clear hpv hsv hk hn hp hσ hss HUp HSub hL2
 by_cases FZ:rn=1000
 ·subst FZ;have HT:Hid (∀w' v',ou (w.heap.size+2) w' v' cK→ug (w.heap.size+2) w' v' 5 (fB p ss ⟨K,N,lev,1000,false⟩)):=fun w' v' h=>by unfold fB;rw[if_pos rfl];exact⟨rfl,h⟩
  obtain⟨q0,q1,q2,q3,q4,_,_⟩:=dQ HRs.out;rw[hw2] at q0 q1 q2 q3 q4;have HB2:Hid (Below w.heap.size w w2):=HL2.out.below;rw[hw2] at HB2;clear hw2 HRb HRs HMk HK2 HSV HL2 hz2
  go_enter Tryz.func29,Tryz.ntmps29
  go_wp2;exact bodyPost_ret (v:=.tuple #[.agg #[.slice none 0 0,.slice none 0 0,.int .i64 0,.int .i64 0,.bool false],.int .i64 5]) (by simp[results,Tryz.results29,go_sem,q0,q1,q2,q3,q4]) rfl ⟨_,5,rfl,HT.out _ _ (ou.none _ _),HB2.out⟩
 have hne:¬(rn=1000):=FZ;have HW2:=au hw2;clear hw2
 go_enter Tryz.func29,Tryz.ntmps29
 go_wp2_with fail
 rw[←HW2.out];refine HMk.out.mono ?_;rintro e w3 ⟨v3,er,rfl,hT3,hB3⟩;have HB3:Hid (Below w.heap.size w w3):=ak HL2.out.below hB3 (by omega);have xP:Hid (w3.heap[w.heap.size]?=some (.cells #[.slice ka K.length kc,.slice na N.length nc,.int .i64 lev,.int .i64 rn,.bool false] 26 (0,0))):=by show _=_;rw[hB3.block _ (by omega)];exact HRb.out
 have nY:Hid (w3.heap[w.heap.size+1]?=some (.cells #[.slice none 0 0,.slice none 0 0,.int .i64 0,.int .i64 0,.bool false] 26 (0,0))):=by show _=_;rw[hB3.block _ (by omega)];exact HRs.out
 have HK3:=au (HK2.out.below hB3);have hz3:w.heap.size+2≤w3.heap.size:=by have:=hB3.size;omega
 rw[hz2] at hT3;clear hB3 HMk HRb HRs HK2 HW2 HL2 hz2 w2;unfold qb at hT3;dsimp only at hT3;have hnx:fB p ss ⟨K,N,lev,rn,false⟩=match bq K N lev p ss [] with
  |none=>(4,cK)
  |some acc=>if 200<(bY (K++acc)).length then(5,cK) else
   if gB K acc=[] then(0,⟨bY (K++acc),bY (K++acc),lev+1,rn+1,decide (lev+1=countP ss)⟩)
   else(0,⟨bY (K++acc),gB K acc,lev,rn+1,false⟩):=by unfold fB;rw[if_neg hne];dsimp only;cases bq K N lev p ss [] <;> rfl
 have HNx:=au hnx;clear hnx hne FZ;cases hmk:bq K N lev p ss [] with
 |none=>
  rw[hmk] at hT3;obtain⟨rfl,rfl⟩:=hT3;have HT:Hid (∀w' v',ou (w.heap.size+2) w' v' cK→ug (w.heap.size+2) w' v' 4 (fB p ss ⟨K,N,lev,rn,false⟩)):=fun w' v' h=>by rw[HNx.out,hmk];exact⟨rfl,h⟩
  obtain⟨q0,q1,q2,q3,q4,⟨f0,f1,f2,f3,f4⟩,qz⟩:=dQ nY.out;clear hmk HNx HK3 HSV HG HGN Jd;go_wp2;obtain⟨r0,r1,r2,r3,r4⟩:=lI nY.out (.slice none 0 0) (.slice none 0 0) (.int .i64 0) (.int .i64 0) (.bool false);exact bodyPost_ret (v:=.tuple #[.agg #[.slice none 0 0,.slice none 0 0,.int .i64 0,.int .i64 0,.bool false],.int .i64 4]) (by simp[results,Tryz.results29,go_sem,r0,r1,r2,r3,r4]) rfl ⟨_,4,rfl,HT.out _ _ (ou.none _ _),Below.cO HB3.out (Nat.le_succ _)⟩
 |some acc=>
  rw[hmk] at hT3;obtain⟨rfl,D,hO3,hM3⟩:=hT3;obtain⟨da,dc,rfl⟩:=hO3.slice;have hend:=BS HGN.out hM3;have hDf:=hM3.few;have HJ:=au (Hz (.slice ka K.length kc) (.slice da D.length dc) K D w3 HK3.out (hO3.facts (by omega)) (by omega));obtain⟨b0,b1,b2,b3,b4,_,_⟩:=dQ xP.out;have HO3:=au hO3;have Ip:=au hend;rw[hmk] at HNx;have Gn:=au HNx.out;clear hmk hO3 hM3 hend HNx HK3
  go_wp2_with fail
  refine HJ.out.mono ?_;rintro e w4 ⟨v4,s,rfl,hS,hO4,hL4⟩;obtain rfl:s=bY (K++D):=jT hS.1 hS.2.1;have Nh:(bY (K++D)).length≤100000:=by have:=iN (K++D);rw[List.length_append] at this;omega
  obtain⟨a4,c4,rfl⟩:=hO4.slice;have HB4:Hid (Below w.heap.size w w4):=ak HB3.out hL4.below HB3.out.size;have J2:Hid (w4.heap[w.heap.size]?=some (.cells #[.slice ka K.length kc,.slice na N.length nc,.int .i64 lev,.int .i64 rn,.bool false] 26 (0,0))):=by show _=_;rw[hL4.block (by omega)];exact xP.out
  have F4:Hid (w4.heap[w.heap.size+1]?=some (.cells #[.slice none 0 0,.slice none 0 0,.int .i64 0,.int .i64 0,.bool false] 26 (0,0))):=by show _=_;rw[hL4.block (by omega)];exact nY.out
  have J3:Hid (dR w4 (w.heap.size+2) (.slice da D.length dc) D):=(HO3.out.later hL4).base (by omega);have HO4:Hid (dR w4 (w.heap.size+2) (.slice a4 (bY (K++D)).length c4) (bY (K++D))):=hO4.base (by omega);have hz4:w.heap.size+2≤w4.heap.size:=by have:=hL4.size;omega
  clear b0 b1 b2 b3 b4 hS hO4 hL4 HO3 HB3 xP nY HJ hz3;obtain⟨b0,b1,b2,b3,b4,⟨g0,g1,g2,g3,g4⟩,bz⟩:=dQ J2.out;obtain⟨q0,q1,q2,q3,q4,⟨f0,f1,f2,f3,f4⟩,qz⟩:=dQ F4.out
  by_cases hbig:200<(bY (K++D)).length
  ·have HT:Hid (∀w' v',ou (w.heap.size+2) w' v' cK→ug (w.heap.size+2) w' v' 5 (fB p ss ⟨K,N,lev,rn,false⟩)):=fun w' v' h=>by rw[Gn.out,if_pos (Ip.out.1 hbig)];exact⟨rfl,h⟩
   have hbz:(200:Int)<((bY (K++D)).length:Int):=by omega
   have HR5:Hid ((w4.setCell ⟨w.heap.size,0,none⟩ (.slice a4 (bY (K++D)).length c4)).heap[w.heap.size+1]?=some (.cells #[.slice none 0 0,.slice none 0 0,.int .i64 0,.int .i64 0,.bool false] 26 (0,0))):=by show _=_;rw[heap_setCell_other _ _ _ (by show w.heap.size+1≠w.heap.size;omega)];exact F4.out
   clear Ip Gn HSV J3 HO4 HG HGN Jd;go_wp2;obtain⟨r0,r1,r2,r3,r4⟩:=lI HR5.out (.slice none 0 0) (.slice none 0 0) (.int .i64 0) (.int .i64 0) (.bool false);exact bodyPost_ret (v:=.tuple #[.agg #[.slice none 0 0,.slice none 0 0,.int .i64 0,.int .i64 0,.bool false],.int .i64 5]) (by simp[results,Tryz.results29,go_sem,r0,r1,r2,r3,r4]) rfl ⟨_,5,rfl,HT.out _ _ (ou.none _ _),Below.cO (Below.put HB4.out (Nat.le_refl _)) (Nat.le_succ _)⟩
  obtain⟨eK,eD⟩:=Ip.out.2 hbig;have hbz:¬(200:Int)<((bY (K++D)).length:Int):=by omega
  by_cases hD0:D=[]
  ·have hd0:((D.length:Int)=0):=by rw[hD0];rfl
   have HT:Hid (∀w' v',ou (w.heap.size+2) w' v' ⟨bY (K++D),bY (K++D),lev+1,rn+1,lev+1==((countP ss:Nat):Int)⟩→ug (w.heap.size+2) w' v' 0 (fB p ss ⟨K,N,lev,rn,false⟩)):=fun w' v' h=>by rw[Gn.out,if_neg (by rw[←eK];exact hbig),if_pos (by rw[←eD];exact hD0),←eK];exact⟨rfl,h⟩
   clear hD0;generalize bY (K++D)=Z at*;obtain⟨w7,hw7⟩:∃w7,w7=((w4.setCell ⟨w.heap.size,0,none⟩ (.slice a4 Z.length c4)).setCell ⟨w.heap.size,1,none⟩ (.slice da D.length dc)).setCell ⟨w.heap.size,2,none⟩ (.int .i64 (lev+1)):=⟨_,rfl⟩;have hO7:dR w7 (w.heap.size+2) (.slice a4 Z.length c4) Z:=by rw[hw7];exact((HO4.out.put (by omega)).put (by omega)).put (by omega)
   have HB7:Hid (Below w.heap.size w w7):=by show Below _ _ _;rw[hw7];exact Below.put (Below.put (Below.put HB4.out (Nat.le_refl _)) (Nat.le_refl _)) (Nat.le_refl _)
   have hz7:w7.heap.size=w4.heap.size:=by rw[hw7,size_setCell,size_setCell,size_setCell]
   have hr7:w7.heap[w.heap.size]?=some (.cells #[.slice a4 Z.length c4,.slice da D.length dc,.int .i64 (lev+1),.int .i64 rn,.bool false] 26 (0,0)):=by rw[hw7,dW (j:=2) (dW (j:=1) (dW (j:=0) J2.out _) _) _];rfl
   have hs7:w7.heap[w.heap.size+1]?=some (.cells #[.slice none 0 0,.slice none 0 0,.int .i64 0,.int .i64 0,.bool false] 26 (0,0)):=by rw[hw7,heap_setCell_other _ _ _ (by show w.heap.size+1≠w.heap.size;omega),heap_setCell_other _ _ _ (by show w.heap.size+1≠w.heap.size;omega),heap_setCell_other _ _ _ (by show w.heap.size+1≠w.heap.size;omega)];exact F4.out
   have HOw:=au (GL (.slice a4 Z.length c4) Z w7 (hO7.facts (by omega)));have HO7:=au hO7;have HR7:=au hr7;have HS7:=au hs7;have HW7:=au hw7;clear Ip Gn HG HGN eK eD hO7 hr7 hs7 hw7 J3 HO4
   go_wp2_with fail
   rw[←HW7.out];refine HOw.out.mono ?_;rintro e w8 ⟨v8,rfl,hO8,hL8⟩;obtain⟨a8,c8,rfl⟩:=hO8.slice;clear b0 b1 b2 b3 b4 q0 q1 q2 q3 q4 g0 g1 g2 g3 g4 f0 f1 f2 f3 f4;have hr8:w8.heap[w.heap.size]?=some (.cells #[.slice a4 Z.length c4,.slice da D.length dc,.int .i64 (lev+1),.int .i64 rn,.bool false] 26 (0,0)):=by rw[hL8.block (by omega)];exact HR7.out
   have hs8:w8.heap[w.heap.size+1]?=some (.cells #[.slice none 0 0,.slice none 0 0,.int .i64 0,.int .i64 0,.bool false] 26 (0,0)):=by rw[hL8.block (by omega)];exact HS7.out
   have hz8:=hL8.size;obtain⟨w9,hw9⟩:∃w9,w9=w8.setCell ⟨w.heap.size,1,none⟩ (.slice a8 Z.length c8):=⟨_,rfl⟩;have hr9:w9.heap[w.heap.size]?=some (.cells #[.slice a4 Z.length c4,.slice a8 Z.length c8,.int .i64 (lev+1),.int .i64 rn,.bool false] 26 (0,0)):=by rw[hw9,dW (j:=1) hr8 _];rfl
   have hs9:w9.heap[w.heap.size+1]?=some (.cells #[.slice none 0 0,.slice none 0 0,.int .i64 0,.int .i64 0,.bool false] 26 (0,0)):=by rw[hw9,heap_setCell_other _ _ _ (by show w.heap.size+1≠w.heap.size;omega)];exact hs8
   have HB9:Hid (Below w.heap.size w w9):=by show Below _ _ _;rw[hw9];exact Below.put (ak HB7.out hL8.below HB7.out.size) (Nat.le_refl _)
   have KU:Hid (dR w9 (w.heap.size+2) (.slice a4 Z.length c4) Z):=by show dR _ _ _ _;rw[hw9];exact(HO7.out.later hL8).put (by omega)
   have KV:Hid (dR w9 (w.heap.size+2) (.slice a8 Z.length c8) Z):=by show dR _ _ _ _;rw[hw9];exact(hO8.base (by omega)).put (by omega)
   have hz9:w9.heap.size=w8.heap.size:=by rw[hw9,size_setCell]
   have HR9:=au hr9;have HS9:=au hs9;have HW9:=au hw9;obtain⟨b0,b1,b2,b3,b4,⟨g0,g1,g2,g3,g4⟩,_⟩:=dQ hr8;have HCn:=au (BR ss (.slice sa ss.length sc) w9.drew (aB.aO HSV.out HB9.out.drew) Jd.out);have c29:=(dQ hr9).2.2.1;clear hO8 hL8 hr8 hs8 hr9 hs9 hw9 HOw HO7 HR7 HS7 HW7 J2 F4;go_wp2;rw[←HW9.out];clear b0 b1 b2 b3 b4 g0 g1 g2 g3 g4;refine wp_region_held_drew (S:=fun w'=>w'.cell? ⟨w.heap.size,2,none⟩=some (.int .i64 (lev+1))∧Tn w.heap.size w9 w') (by kernel_rfl) ⟨c29,(Tn.refl _ _).drew⟩ (fun hHeld=>?_);refine tkY 0 48 hHeld ?_;refine tkY 1 49 hHeld ?_ rfl fun w hSw=>by have qq:=hSw.1;go_simp;try with_reducible rfl
   refine tkY 2 50 hHeld ?_;refine tkC 3 fun K hK=>?_;go_simp;refine HCn.out.mono ?_;rintro e w10 ⟨rfl,C8⟩;have qM:Below w9.heap.size w9 w10:=ak (Below.refl _ _).drew C8.below (Nat.le_refl _);have KW:w10.heap[w.heap.size]?=some (.cells #[.slice a4 Z.length c4,.slice a8 Z.length c8,.int .i64 (lev+1),.int .i64 rn,.bool false] 26 (0,0)):=by rw[qM.block _ (by omega)];exact HR9.out
   obtain⟨b0,b1,b2,b3,b4,⟨g0,g1,g2,g3,g4⟩,_⟩:=dQ KW;refine hK.out _ _ ⟨b2,Tn.of_below qM⟩ (fun hHeld=>?_);clear hK K;refine tkY 4 52 hHeld ?_;refine tkY 5 53 hHeld ?_;refine tkC 6 fun K hK=>?_;go_simp;have J4:w10.heap[w.heap.size+1]?=some (.cells #[.slice none 0 0,.slice none 0 0,.int .i64 0,.int .i64 0,.bool false] 26 (0,0)):=by rw[qM.block _ (by omega)];exact HS9.out
   refine hK.out _ _ ⟨by rw[World.cell?_setCell_other _ _ _ _ (by simp)];exact b2,Tn.setCell (p:=w.heap.size) (Tn.of_below qM) (x:=⟨w.heap.size,4,none⟩) (Or.inl rfl) _⟩ (fun hHeld=>?_);clear hK K;refine wpAnyH_done (by kernel_rfl) ?_ _;have Mv:Hid (((w10.setCell ⟨w.heap.size,4,none⟩ (.bool (lev+1==((countP ss:Nat):Int)))).setCell ⟨w.heap.size,3,none⟩ (.int .i64 (rn+1))).heap[w.heap.size+1]?=some (.cells #[.slice none 0 0,.slice none 0 0,.int .i64 0,.int .i64 0,.bool false] 26 (0,0))):=by show _=_;rw[heap_setCell_other _ _ _ (by show w.heap.size+1≠w.heap.size;omega),heap_setCell_other _ _ _ (by show w.heap.size+1≠w.heap.size;omega)];exact J4
   obtain⟨q0,q1,q2,q3,q4,⟨f0,f1,f2,f3,f4⟩,_⟩:=dQ J4;have F5:Hid (Below w.heap.size w w10):=ak HB9.out qM HB9.out.size;have J5:Hid (dR w10 (w.heap.size+2) (.slice a4 Z.length c4) Z):=KU.out.stay qM.size fun k hk _=>qM.block k hk;have J6:Hid (dR w10 (w.heap.size+2) (.slice a8 Z.length c8) Z):=KV.out.stay qM.size fun k hk _=>qM.block k hk;clear hHeld C8 qM KW J4 HB9 KU KV HR9 HS9 HW9 HCn c29;go_wp2;obtain⟨r0,r1,r2,r3,r4⟩:=lI Mv.out (.slice a4 Z.length c4) (.slice a8 Z.length c8) (.int .i64 (lev+1)) (.int .i64 (rn+1)) (.bool (lev+1==((countP ss:Nat):Int)));exact bodyPost_ret (v:=.tuple #[.agg #[.slice a4 Z.length c4,.slice a8 Z.length c8,.int .i64 (lev+1),.int .i64 (rn+1),.bool (lev+1==((countP ss:Nat):Int))],.int .i64 0]) (by simp[results,Tryz.results29,go_sem,r0,r1,r2,r3,r4]) rfl
    ⟨_,0,rfl,HT.out _ _ ⟨_,_,rfl,(dR.cO ((J5.out.put (by omega)).put (by omega)) (by omega)),(dR.cO ((J6.out.put (by omega)).put (by omega)) (by omega))⟩,
     Below.cO (Below.put (Below.put F5.out (Nat.le_refl _)) (Nat.le_refl _)) (Nat.le_succ _)⟩
  have hd0:¬((D.length:Int)=0):=by
   cases D;·exact absurd rfl hD0
   simp;omega
  have HT:Hid (∀w' v',ou (w.heap.size+2) w' v' ⟨bY (K++D),D,lev,rn+1,false⟩→ug (w.heap.size+2) w' v' 0 (fB p ss ⟨K,N,lev,rn,false⟩)):=fun w' v' h=>by rw[Gn.out,if_neg (by rw[←eK];exact hbig),if_neg (by rw[←eD];exact hD0),←eK,←eD];exact⟨rfl,h⟩
  have HR5:Hid ((((w4.setCell ⟨w.heap.size,0,none⟩ (.slice a4 (bY (K++D)).length c4)).setCell ⟨w.heap.size,1,none⟩ (.slice da D.length dc)).setCell ⟨w.heap.size,3,none⟩ (.int .i64 (rn+1))).heap[w.heap.size+1]?=some (.cells #[.slice none 0 0,.slice none 0 0,.int .i64 0,.int .i64 0,.bool false] 26 (0,0))):=by show _=_;rw[heap_setCell_other _ _ _ (by show w.heap.size+1≠w.heap.size;omega),heap_setCell_other _ _ _ (by show w.heap.size+1≠w.heap.size;omega),heap_setCell_other _ _ _ (by show w.heap.size+1≠w.heap.size;omega)];exact F4.out
  clear Ip Gn HSV HG HGN Jd eK eD;go_wp2;obtain⟨r0,r1,r2,r3,r4⟩:=lI HR5.out (.slice a4 (bY (K++D)).length c4) (.slice da D.length dc) (.int .i64 lev) (.int .i64 (rn+1)) (.bool false);exact bodyPost_ret (v:=.tuple #[.agg #[.slice a4 (bY (K++D)).length c4,.slice da D.length dc,.int .i64 lev,.int .i64 (rn+1),.bool false],.int .i64 0]) (by simp[results,Tryz.results29,go_sem,r0,r1,r2,r3,r4]) rfl
   ⟨_,0,rfl,HT.out _ _ ⟨_,_,rfl,(dR.cO (((HO4.out.put (by omega)).put (by omega)).put (by omega)) (by omega)),(dR.cO (((J3.out.put (by omega)).put (by omega)).put (by omega)) (by omega))⟩,
    Below.cO (Below.put (Below.put (Below.put HB4.out (Nat.le_refl _)) (Nat.le_refl _)) (Nat.le_refl _)) (Nat.le_succ _)⟩
theorem qh {p:List aD} {m:bZ} (hl:jO p m) (hs:Sol p (numOf m)):∀r∈p,numOf m r.head.name<p.length:=by
 have key:∀k,(∃r∈p,k≤numOf m r.head.name)→k≤(p.map fun r=>if numOf m r.head.name<k then 1 else 0).sum:=by
  intro k
  induction k with
  |zero=>intro _;exact Nat.zero_le _
  |succ k ih=>
   rintro⟨r,hr,hk⟩;have h1:=ih ⟨r,hr,by omega⟩;obtain⟨q,hq,hqk⟩:∃q∈p,numOf m q.head.name=k:=by refine Classical.byContradiction fun hn=>?_;have:=Gv hl hs k (fun q hq e=>hn ⟨q,hq,e⟩) r hr;omega
   have h2:(p.map fun r=>if numOf m r.head.name<k then 1 else 0).sum<(p.map fun r=>if numOf m r.head.name<k+1 then 1 else 0).sum:=by
    refine sum_lt (fun x _=>?_) ⟨q,hq,?_⟩
    ·split;·rw[if_pos (by omega)];exact Nat.le_refl _
     exact Nat.zero_le _
    rw[if_neg (by omega),if_pos (by omega)];exact Nat.one_pos
   omega
 intro r hr;have h1:=key _ ⟨r,hr,Nat.le_refl _⟩;have h2:(p.map fun q=>if numOf m q.head.name<numOf m r.head.name then 1 else 0).sum<(p.map fun _=>1).sum:=by
  refine sum_lt (fun x _=>?_) ⟨r,hr,?_⟩;·split <;> omega
  rw[if_neg (by omega)];exact Nat.one_pos
 have h3:(p.map fun _=>1).sum=p.length:=by
  clear h1 h2 key hr hl hs
  induction p with
  |nil=>rfl
  |cons a p ih=>simp only[List.map_cons,List.sum_cons,List.length_cons,ih];omega
 omega
theorem below_drewN {n:Nat} {a b:World} (h:Below n a b) (q:Nat):Below n a (b.drewN q):=⟨h.os,h.tape,h.output,h.size,h.block⟩
def Ni (p:List aD) (l:List aF):Int×List aF:=
 if(aK p).2.1≠0 then((aK p).2.1,[]) else if(dP p l).1≠0 then((dP p l).1,[]) else Gx p (aK p).1 (countP (aK p).1) 0 l
def j5 (p:List aD) (l:List aF):Int:=if(aK p).2.1≠0 then(aK p).2.1 else(dP p l).1
theorem iF {p:List aD} {l:List aF} (h:j5 p l=0):fG p∧GoodS p l∧∃τ:Bs→Nat,Sol p τ∧aK p=(p.map fun r=>τ r.head.name,0,(aK p).2.2)∧∀r∈p,τ r.head.name<16:=by
 unfold j5 at h;split at h;·rename_i h1;exact absurd h h1
 rename_i h1;have h1:(aK p).2.1=0:=Classical.byContradiction h1;obtain⟨ss,ex,ea,hse⟩:∃ss ex ea,aK p=(ss,ex,ea):=⟨_,_,_,rfl⟩;rw[hse] at h1;have h1:ex=0:=h1;subst h1;obtain⟨hw0,m,hms,hdm,hlm,hsm⟩:=ko hse;have hp:=kC.1 hw0;refine⟨hp,zZ h,numOf m,hsm,?_,fun r hr=>?_⟩;·rw[hse,hms];rfl
 have:=qh hlm hsm r hr;have:=hp.few;omega
theorem aB.mF {α:Type} {K:aB α} {b:Nat} {w w':World} {v:Value} {l:List α} (h:K.sl (From b) w v l) (k:Below w.heap.size w w'):K.sl (From b) w' v l:=aB.fE h k.size fun i hi _=>k.block i hi
def Gp (b:Nat) (w:World) (v:Value) (p:List aD) (l:List aF):Prop:=(∃a n c,v=.slice a n c)∧(j5 p l=0→jL.sl (From b) w v (aK p).1)
theorem rR (p:List aD) (l:List aF) (pv fv:Value) (w:World) (hv:iy.sl bT w pv p) (hf:Facts w fv l):
  Calls Tryz.prog 13 #[pv,fv] w fun e w'=>∃v',e=.returned (.tuple #[v',.int .i64 (j5 p l)])∧Gp w.heap.size w' v' p l∧Below w.heap.size w w':=by
 have HSt:=au (FP p pv w hv);obtain⟨pa,pc,rfl⟩:=aB.slice hv;obtain⟨fa,fc,rfl⟩:=aC hf;have HV:=au hv;have HF:=au hf;clear hv hf;obtain⟨ss,ex,ea,hse⟩:∃ss ex ea,aK p=(ss,ex,ea):=⟨_,_,_,rfl⟩;rw[hse] at HSt;have HSE:=au hse;clear hse
 go_enter Tryz.func13,Tryz.ntmps13
 go_wp2_with fail
 refine HSt.out.mono ?_;rintro e w1 ⟨u,rfl,hu,hB1⟩;dsimp only at hu⊢;have HU:Hid (jL.sl (From w.heap.size) w1 u ss):=hu;obtain⟨ua,uc,rfl⟩:=aB.slice hu;have HB1:=au hB1;clear hu hB1 HSt
 by_cases h0:ex=0
 ·subst h0;obtain⟨hw0,m,hms,hdm,hlm,hsm⟩:=ko HSE.out;have hp:=kC.1 hw0;obtain⟨w2,hw2⟩:∃w2,w2=w1.alloc (.cells #[.int .i64 0,.int .i64 (ea:Nat)] 41):=⟨_,rfl⟩;have hL2:aj w1 w2:=by rw[hw2];exact(aj.refl _).alloc _
  have hB2:Below w.heap.size w w2:=ak HB1.out hL2.below HB1.out.size;have HFC:=au (xO p hp (.slice pa p.length pc) (.slice fa l.length fc) l w2 (aB.aO HV.out hB2) (HF.out.below hB2));obtain⟨fx,fe,hfe⟩:∃fx fe,dP p l=(fx,fe):=⟨_,_,rfl⟩;rw[hfe] at HFC;have HFE:=au hfe;have HB2:=au hB2;have HU2:=au (aB.mF HU.out hL2.below);have HW2:=au hw2;have HX:Hid (j5 p l=fx):=by show _=_;unfold j5;rw[HSE.out,HFE.out];simp
  clear hw0 hms hdm hlm hsm hp hL2 hB2 hfe hw2 HB1 HU
  go_wp2_with fail
  rw[←HW2.out];refine HFC.out.mono ?_;rintro e w3 ⟨rfl,hB3⟩;dsimp only;have HB3:Hid (Below w.heap.size w w3):=ak HB2.out hB3 HB2.out.size;have HU3:=au (aB.mF HU2.out hB3);clear hB3 HFC HW2 HB2 HU2;have HB4:Hid (Below w.heap.size w (w3.alloc (.cells #[.int .i64 fx,.int .i64 fe] 41))):=ak HB3.out ((aj.refl _).alloc _).below HB3.out.size
  by_cases h1:fx=0
  ·subst h1;have HT:Hid (Gp w.heap.size (w3.alloc (.cells #[.int .i64 0,.int .i64 fe] 41)) (.slice ua ss.length uc) p l):=⟨⟨_,_,_,rfl⟩,fun _=>by rw[HSE.out];exact aB.mF HU3.out ((aj.refl _).alloc _).below⟩;clear HSE HFE HV HF HU3;go_wp2;exact bodyPost_ret (v:=.tuple #[.slice ua ss.length uc,.int .i64 0]) (by simp[results,Tryz.results13,go_sem]) rfl ⟨_,by rw[HX.out],HT.out,HB4.out⟩
  have HT:Hid (∀w',Gp w.heap.size w' (.slice none 0 0) p l):=fun w'=>⟨⟨_,_,_,rfl⟩,fun h=>absurd (HX.out.symm.trans h) h1⟩;have hne:(fx != 0)=true:=by simpa using h1
  clear HSE HFE h1 HV HF HU3;go_wp2
  go_quiet (fail)
  go_wp2;exact bodyPost_ret (v:=.tuple #[.slice none 0 0,.int .i64 fx]) (by simp[results,Tryz.results13,go_sem]) rfl ⟨_,by rw[HX.out],HT.out _,below_drewN HB4.out _⟩
 have HX:Hid (j5 p l=ex):=by show _=_;unfold j5;rw[HSE.out];simp[h0]
 have HT:Hid (∀w',Gp w.heap.size w' (.slice none 0 0) p l):=fun w'=>⟨⟨_,_,_,rfl⟩,fun h=>absurd (HX.out.symm.trans h) h0⟩;have hne:(ex != 0)=true:=by simpa using h0
 have HB4:Hid (Below w.heap.size w (w1.alloc (.cells #[.int .i64 ex,.int .i64 (ea:Nat)] 41))):=ak HB1.out ((aj.refl _).alloc _).below HB1.out.size;clear HSE h0 HV HF HU;go_wp2
 go_quiet (fail)
 go_wp2;exact bodyPost_ret (v:=.tuple #[.slice none 0 0,.int .i64 ex]) (by simp[results,Tryz.results13,go_sem]) rfl ⟨_,by rw[HX.out],HT.out _,below_drewN HB4.out _⟩
end Go.Proofs.YthngiikhgplldaaGreatDoor
