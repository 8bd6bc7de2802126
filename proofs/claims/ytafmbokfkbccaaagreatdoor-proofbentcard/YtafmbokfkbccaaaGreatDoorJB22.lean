import Derived.Test.YtafmbokfkbccaaaGreatDoorJB21
import Derived.Test.YtafmbokfkbccaaaGreatDoorJB5
import Derived.Test.YtafmbokfkbccaaaGreatDoorJB11
namespace Go.Proofs.YtafmbokfkbccaaaGreatDoor
open Go.RowKit Go.Sort
theorem Nf:∀l:Bs,(Lib.cut l [10]).1=l.takeWhile (fun c=>c != 10):=by
 intro l
 induction l with
 |nil=>simp[Lib.cut,Lib.index]
 |cons c t ih=>
  by_cases h:c=10
  ·subst h;simp[Lib.cut,Lib.index,List.isPrefixOf]
  ·have h':¬(10:UInt8)=c:=fun e=>h e.symm;rw[List.takeWhile_cons,if_pos (by simpa using h)];have hg:=Lib.index_ge t [10];unfold Lib.cut at ih⊢;have e:Lib.index (c::t) [10]=if Lib.index t [10]== -1 then-1 else Lib.index t [10]+1:=by
    rw[Lib.index];simp[List.isPrefixOf,h']
   rw[e]
   by_cases hi:Lib.index t [10]= -1
   ·rw[hi] at ih⊢;simp at ih⊢;exact ih
   ·have h0:0≤Lib.index t [10]:=by omega
    have hb:(Lib.index t [10]== -1)=false:=by simpa using hi
    rw[hb,if_neg (c:=false=true) (by simp),if_pos (by omega)];rw[if_pos h0] at ih;rw[show(Lib.index t [10]+1).toNat=(Lib.index t [10]).toNat+1 by omega,List.take_succ_cons];exact congrArg _ ih
theorem FZ:∀l:Bs,skip (l.drop (l.takeWhile (fun c=>c != 10)).length)=jK true l:=by
 intro l
 induction l with
 |nil=>rfl
 |cons c t ih=>
  by_cases h:c=10
  ·subst h;simp[Hq,skip,sU]
  ·rw[Eh h,List.takeWhile_cons,if_pos (by simpa using h)];simpa using ih
set_option maxHeartbeats 1000000 in
theorem IL (p:Nat) (s:ByteArray) (l:Bs) (w:World) (h:Rd w p s l):
  Calls Tryz.prog 268 #[.pointer (some ⟨p,0,none⟩)] w fun e w'=>e=.returned (.tuple #[])∧Rd w' p s (l.drop (l.takeWhile (fun c=>c != 10)).length)∧Tn p w w':=by
 have H:=hide h;have c0:=h.c0;have c1:=h.c1;have fz:=h.fz;obtain⟨m,hm⟩:=h.g;have hcut:=FT h.suf;have hps:=uz s l;have hs:=h.short;have hll:=oQ h.suf;have HC:Hid (∀q,Calls Tryz.prog 299 #[.string (bs l),.string {data:=#[10]}] (w.drewN q) fun e w'=>e=.returned (.tuple #[.string (bs (l.takeWhile (fun c=>c != 10))),.string ⟨(Lib.cut l [10]).2.1.toArray⟩,.bool (Lib.cut l [10]).2.2])∧∃n,w'=(w.drewN q).drewN n):=fun q=>by
  have:=Tryz.strings_Cut (bs l) {data:=#[10]} m (w.drewN q) (by rw[iN];omega) hm;have e:(bs l).data.toList=l:=iw l;rw[e] at this;refine this.mono ?_;rintro e w' ⟨rfl,hw⟩;exact⟨by rw[←Nf];rfl,hw⟩
 generalize ht:l.takeWhile (fun c=>c != 10)=t at HC⊢;have hle:t.length≤l.length:=by rw[←ht];exact(List.takeWhile_prefix _).length_le
 have hn:(bs t).size=t.length:=iN t;have HP:=hide (FR h.suf hle);clear h hm ht
 go_enter Tryz.func268,Tryz.ntmps268
 go_wp2
 go_quiet ((go_at_call 299;exact Calls.quiet_of (HC.out _)))
 go_wp2;go_end0;exact⟨rfl,(H.out.drewN _).moved hle rfl,((Tn.refl p w).drewN _).moved _ _⟩
theorem K8 {s:ByteArray} {l:Bs} {c:UInt8} (h:(c::l)<:+raw s):∃hk:pos s (c::l)<s.size,s[pos s (c::l)]=c:=by
 have hl:=oQ h;have hk:pos s (c::l)<s.size:=by simp only[pos,List.length_cons] at*;omega
 refine⟨hk,?_⟩;have e:=BO h;have hk':pos s (c::l)<(raw s).length:=by rw[aY];exact hk
 rw[List.drop_eq_getElem_cons hk'] at e;have:=(List.cons.inj e).1;rw[xC hk hk'] at this;exact this
theorem Aq {c d:UInt8} (h:¬c=d):((c.toNat:Int)==(d.toNat:Int))=false:=by
 rw[beq_eq_false_iff_ne];intro e;exact h (UInt8.toNat_inj.1 (by omega))
set_option maxHeartbeats 2000000 in
theorem K9 (p:Nat) (s:ByteArray) (l:Bs) (w:World) (h:Rd w p s l):
  Calls Tryz.prog 215 #[.pointer (some ⟨p,0,none⟩)] w fun e w'=>e=.returned (.tuple #[])∧Rd w' p s (skip l)∧Tn p w w':=by
 have H:=hide h;clear h
 go_enter Tryz.func215,Tryz.ntmps215
 go_wp2
 go_loopg [] (l.length+1) (fun k wr=>∃l',l'.length<k∧Rd wr p s l'∧skip l'=skip l∧Tn p w wr)
 case atStart=>exact⟨l,by omega,H.out,rfl,Tn.refl _ _⟩
 case round=>
  obtain⟨l',hk,hR,hE,hT⟩:=hrel;have HR:=hide hR;have HE:=hide hE;have HT:=hide hT;have c0:=hR.c0;have c1:=hR.c1;have fz:=hR.fz;have hps:=uz s l';have hs:=hR.short;have Pz:=hR.suf;clear hR hE hT;cases l' with
  |nil=>
   have hend:¬pos s []<s.size:=by simp[pos]
   go_wp2
   go_quiet (fail)
   go_wp2;go_end0;refine⟨rfl,?_,HT.out.drewN _⟩;have:Rd wr p s []:=HR.out;rw[←HE.out];exact this.drewN _
  |cons c t=>
   obtain⟨hlt,hget⟩:=K8 Pz;have HS:=hide Pz;clear Pz
   by_cases hb:c=32∨c=10
   ·have HQ:Hid (skip t=skip l):=by show _=_;rw[←HE.out,skip,skip,sU hb]
    have HM:Hid (∀q,Rd ((wr.drewN q).setCell ⟨p,1,none⟩ (.int .i64 ((pos s (c::t):Int)+1))) p s t):=fun q=>(HR.out.drewN q).moved (n:=1) (by simp) rfl;have HN:=hide (by simpa using hk:t.length+1<gk);rcases hb with rfl|rfl
    ·generalize pos s (32::t)=k at*;go_wp2
     go_quiet (fail)
     go_wp2
     go_quiet (fail)
     go_wp2
     go_roundg (t.length+1)
     case measure=>exact HN.out
     case rel=>exact⟨t,by omega,HM.out _,HQ.out,(HT.out.drewN _).moved _ _⟩
    ·generalize pos s (10::t)=k at*;go_wp2
     go_quiet (fail)
     go_wp2
     go_quiet (fail)
     go_wp2
     go_roundg (t.length+1)
     case measure=>exact HN.out
     case rel=>exact⟨t,by omega,HM.out _,HQ.out,(HT.out.drewN _).moved _ _⟩
   ·by_cases h37:c=37
    ·subst h37;have HQ:Hid (skip ((37::t).drop ((37::t).takeWhile (fun c=>c != 10)).length)=skip l):=by
      show _=_;rw[←HE.out,FZ,skip,Ef,Eh (by decide)]
     have HN:Hid (((37::t).drop ((37::t).takeWhile (fun c=>c != 10)).length).length+1<gk):=by
      show _<_;rw[List.takeWhile_cons,if_pos (by decide)];simp at hk⊢;omega
     have HC:=hide (fun w' (hw:Rd w' p s (37::t))=>IL p s (37::t) w' hw);generalize(37::t).drop ((37::t).takeWhile (fun c=>c != 10)).length=t' at*;generalize pos s (37::t)=k at*;go_wp2
     go_quiet (fail)
     go_wp2
     go_quiet (fail)
     go_wp2_with fail
     refine(HC.out _ (HR.out.drewN _)).mono ?_;rintro e w1 ⟨rfl,hR1,hT1⟩;have HR1:=hide hR1;have HT1:=hide ((HT.out.drewN _).trans hT1);clear hR1 hT1;go_wp2
     go_roundg (t'.length+1)
     case measure=>exact HN.out
     case rel=>exact⟨t',by omega,HR1.out,HQ.out,HT1.out⟩
    ·have HQ:Hid (c::t=skip l):=by show _=_;rw[←HE.out,skip,Ci hb h37]
     have n1:((c.toNat:Int)==32)=false:=Aq (d:=32) (fun e=>hb (Or.inl e));have n2:((c.toNat:Int)==10)=false:=Aq (d:=10) (fun e=>hb (Or.inr e));have n3:((c.toNat:Int)==37)=false:=Aq (d:=37) h37;clear hb h37;generalize pos s (c::t)=k at*;go_wp2
     go_quiet (fail)
     go_wp2
     go_quiet (fail)
     go_wp2
     first|go_end0|refine bodyPost_ret (results_none rfl _ _ _) rfl ?_
     refine⟨rfl,?_,HT.out.drewN _⟩;rw[←HQ.out];exact HR.out.drewN _
end Go.Proofs.YtafmbokfkbccaaaGreatDoor
namespace Go.Proofs.YtafmbokfkbccaaaGreatDoor
open Go.RowKit Go.Sort
set_option maxHeartbeats 1000000 in
theorem Ng (p:Nat) (s:ByteArray) (l:Bs) (w:World) (h:Rd w p s l):
  Calls Tryz.prog 155 #[.pointer (some ⟨p,0,none⟩)] w fun e w'=>e=.returned (.bool (decide (skip l=[])))∧Rd w' p s (skip l)∧Tn p w w':=by
 have HC:=hide (K9 p s l w h);clear h
 go_enter Tryz.func155,Tryz.ntmps155
 go_wp2_with fail
 refine HC.out.mono ?_;rintro e w1 ⟨rfl,hR,hT⟩;have HR:=hide hR;have HT:=hide hT;have c0:=hR.c0;have c1:=hR.c1;have hps:=uz s (skip l);have hs:=hR.short;have HE:Hid (((pos s (skip l):Int)==s.size)=decide (skip l=[])):=by
  show _=_;have hl:=oQ hR.suf;rw[Bool.eq_iff_iff,beq_iff_eq,decide_eq_true_iff]
  constructor
  ·intro e;simp only[pos] at e;exact List.eq_nil_of_length_eq_zero (by omega)
  ·intro e;rw[e];simp[pos]
 clear hR hT;generalize hk:pos s (skip l)=k at*;clear hk;go_wp2
 go_quiet (fail)
 go_wp2;go_ret;exact⟨bM HE.out,HR.out.drewN _,HT.out.drewN _⟩
set_option maxHeartbeats 1000000 in
theorem yQ (p:Nat) (s:ByteArray) (l g:Bs) (w:World) (h:Rd w p s l):
  Calls Tryz.prog 235 #[.pointer (some ⟨p,0,none⟩),.string (bs g)] w fun e w'=>e=.returned (.bool (took g l).1)∧Rd w' p s (took g l).2∧Tn p w w':=by
 have HC:=hide (K9 p s l w h);clear h
 go_enter Tryz.func235,Tryz.ntmps235
 go_wp2_with fail
 refine HC.out.mono ?_;rintro e w1 ⟨rfl,hR,hT⟩;have HR:=hide hR;have HT:=hide hT;have c0:=hR.c0;have c1:=hR.c1;have fz:=hR.fz;have hps:=uz s (skip l);have hs:=hR.short;have hcut:=FT hR.suf;have hgz:(bs g).size=g.length:=iN g;have HP:Hid (∀q,Calls Tryz.prog 277 #[.string (bs (skip l)),.string (bs g)] (w1.drewN q) fun e w'=>e=.returned (.bool (g.isPrefixOf (skip l)))∧w'=w1.drewN q):=fun q=>by
  have:=Tryz.strings_HasPrefix (bs (skip l)) (bs g) (w1.drewN q);have e1:(bs (skip l)).data.toList=skip l:=iw _;have e2:(bs g).data.toList=g:=iw _;rw[e1,e2] at this;exact this
 have hll:=oQ hR.suf;clear hR hT;cases hpre:g.isPrefixOf (skip l)
 ·have HE:Hid (took g l=(false,skip l)):=by show _=_;unfold took;rw[hpre];rfl
  rw[hpre] at HP;clear hpre;generalize hk:pos s (skip l)=k at*;clear hk;go_wp2
  go_quiet ((go_at_call 277;exact Calls.quiet_of_same (HP.out _)))
  go_wp2;go_ret;rw[HE.out];exact⟨rfl,HR.out.drewN _,HT.out.drewN _⟩
 ·have hle:g.length≤(skip l).length:=(List.isPrefixOf_iff_prefix.1 hpre).length_le;have HE:Hid (took g l=(true,(skip l).drop g.length)):=by show _=_;unfold took;rw[hpre];rfl
  have Tf:pos s (skip l)+g.length≤s.size:=by simp only[pos];omega
  have HM:=hide (fun q=>(HR.out.drewN q).moved hle rfl);rw[hpre] at HP;clear hpre;generalize hk:pos s (skip l)=k at*;clear hk;go_wp2
  go_quiet ((go_at_call 277;exact Calls.quiet_of_same (HP.out _)))
  go_wp2;go_ret;rw[HE.out];exact⟨rfl,HM.out _,(HT.out.drewN _).moved _ _⟩
set_option maxHeartbeats 1000000 in
theorem Nh (p:Nat) (s:ByteArray) (l:Bs) (w:World) (h:Rd w p s l):
  Calls Tryz.prog 318 #[.pointer (some ⟨p,0,none⟩)] w fun e w'=>e=.returned (.string (bs ((skip l).takeWhile dw)))∧Rd w' p s (skip l)∧Tn p w w':=by
 have HC:=hide (K9 p s l w h);clear h
 go_enter Tryz.func318,Tryz.ntmps318
 go_wp2_with fail
 refine HC.out.mono ?_;rintro e w1 ⟨rfl,hR,hT⟩;have HR:=hide hR;have HT:=hide hT;have c0:=hR.c0;have c1:=hR.c1;have fz:=hR.fz;have hps:=uz s (skip l);have hs:=hR.short;have hcut:=FT hR.suf;have hll:=oQ hR.suf;have HP:Hid (∀q,Calls Tryz.prog 178 #[.string (bs (skip l))] (w1.drewN q) fun e w'=>e=.returned (.string (bs ((skip l).takeWhile dw)))∧w'=w1.drewN q):=fun q=>by
  have:=J9 (bs (skip l)) (w1.drewN q) (by rw[iN];omega);rw[iw] at this;exact this
 clear hR hT;generalize hk:pos s (skip l)=k at*;clear hk;go_wp2
 go_quiet ((go_at_call 178;exact Calls.quiet_of_same (HP.out _)))
 go_wp2;go_ret;exact⟨rfl,HR.out.drewN _,HT.out.drewN _⟩
def oz (e:Int) (s:ByteArray) (r:Bs):Ending:=.panicked [{v:=.iface 220 (.agg #[.int .i64 e,.int .i64 (pos s r)]),recovered:=false}]
set_option maxHeartbeats 1000000 in
theorem F3 (p:Nat) (s:ByteArray) (l:Bs) (x:Int) (w:World) (h:Rd w p s l):
  Calls Tryz.prog 171 #[.pointer (some ⟨p,0,none⟩),.int .i64 x] w fun e w'=>e=oz x s l∧w'=w:=by
 have c0:=h.c0;have c1:=h.c1;clear h;unfold oz
 go_enter Tryz.func171,Tryz.ntmps171
 go_wp2;exact⟨rfl,rfl,rfl⟩
set_option maxHeartbeats 1000000 in
theorem F4 (p:Nat) (s:ByteArray) (l:Bs) (b:Bool) (w:World) (h:Rd w p s l):
  Calls Tryz.prog 154 #[.pointer (some ⟨p,0,none⟩),.bool b] w fun e w'=>e=(if b then .returned (.tuple #[]) else oz 2 s l)∧w'=w:=by
 have HF:=hide (F3 p s l 2 w h);clear h;cases b
 ·go_enter Tryz.func154,Tryz.ntmps154
  go_wp2_with fail
  refine HF.out.mono ?_;rintro e w1 ⟨rfl,rfl⟩;exact⟨rfl,rfl,rfl⟩
 ·go_enter Tryz.func154,Tryz.ntmps154
  go_wp2;go_end0;exact⟨rfl,rfl⟩
def nH {α:Type} (p:Nat) (s:ByteArray) (w:World) (V:World→Value→α→Prop) (x:Res α) (e:Ending) (w':World):Prop:=
 Tn p w w'∧match x with
  | .ok a r=>(∃v,e=.returned v∧V w' v a)∧Rd w' p s r
  | .bad n r=>e=oz n s r∧Rd w' p s r
theorem lT {α:Type} {p:Nat} {s:ByteArray} {w w':World} {V:World→Value→α→Prop} {x:Res α} {a:α} {r:Bs} {v:Value} (hx:x=.ok a r) (hT:Tn p w w') (hV:V w' v a) (hR:Rd w' p s r):nH p s w V x (.returned v) w':=by
 subst hx;exact⟨hT,⟨v,rfl,hV⟩,hR⟩
theorem eZ {α:Type} {p:Nat} {s:ByteArray} {w w':World} {V:World→Value→α→Prop} {x:Res α} {n:Int} {r:Bs} (hx:x=.bad n r) (hT:Tn p w w') (hR:Rd w' p s r):nH p s w V x (oz n s r) w':=by
 subst hx;exact⟨hT,rfl,hR⟩
def Fits (g:Nat) (f:Bs→Bool):Prop:=∀l w,l.length≤3000→Calls Tryz.prog g #[.string (bs l)] w fun e w'=>e=.returned (.bool (f l))∧w'=w
theorem yR:Fits 104 isNamed:=fun l w _=>by
 have:=named (bs l) w;rw[kI,iw] at this;exact this
theorem toList_none:(bs []).toList=[]:=by
 unfold ByteArray.toList ByteArray.toList.loop
 rfl
set_option maxHeartbeats 400000 in
theorem Ni (s:ByteArray) (w:World) (hs:s.size≤281474976710656):Calls Tryz.prog 319 #[.string s] w fun e w'=>e=.returned (.string s)∧Below w.heap.size w w':=by
 have HC:=hide (Tryz.stringslite_Clone s w hs)
 go_enter Tryz.func319,Tryz.ntmps319
 go_wp2_with fail
 refine HC.out.mono ?_;rintro e w1 ⟨rfl,hB⟩;have HB:=hide hB;clear hB;go_wp2;go_ret;exact⟨rfl,HB.out⟩
theorem Nj (x:Bs) (h:x≠[]):(bs x).toList.isEmpty=false:=by
 cases hx:(bs x).toList.isEmpty with
 |false=>rfl
 |true=>
  exfalso
  apply h
  have e:(bs x).toList=(bs []).toList:=by
   rw[List.isEmpty_iff.1 hx,toList_none]
  exact pR (toList_inj e)
set_option maxHeartbeats 2000000 in
theorem Nk (g:Nat) (f:Bs→Bool) (hg:Fits g f) (eg:∀args w,(callFunc g args).run Tryz.prog w=.ok (.enter g args) w) (p:Nat) (s:ByteArray) (l:Bs) (w:World) (h:Rd w p s l):
  Calls Tryz.prog 274 #[.pointer (some ⟨p,0,none⟩),.func (.func g) #[] #[]] w fun e w'=>nH p s w (fun _ v a=>v=.string (bs a)) (word f l) e w':=by
 have HC:=hide (Nh p s l w h);have HG:=hide hg;clear h hg
 go_enter Tryz.func274,Tryz.ntmps274
 go_wp2_with fail
 refine HC.out.mono ?_;rintro e w1 ⟨rfl,hR,hT⟩;have HR:=hide hR;have HT:=hide hT;have c0:=hR.c0;have c1:=hR.c1;have fz:=hR.fz;have hps:=uz s (skip l);have hs:=hR.short;have hll:=oQ hR.suf;have hle:((skip l).takeWhile dw).length≤(skip l).length:=(List.takeWhile_prefix _).length_le;have Tf:pos s (skip l)+((skip l).takeWhile dw).length≤s.size:=by simp only[pos];omega
 have HM:=hide (fun w' (h':Rd w' p s (skip l))=>h'.moved hle rfl);have hz:=iN ((skip l).takeWhile dw)
 by_cases h0:(skip l).takeWhile dw=[]
 ·have HW:Hid (word f l=.bad 2 (skip l)):=by show _=_;unfold word;rw[if_pos h0]
  rw[h0] at hz⊢;have HF:=hide (F4 p s (skip l) false w1 hR);have he:(bs []).toList.isEmpty=true:=by rw[toList_none];rfl
  clear hR hT h0
  go_wp2_with fail
  refine HF.out.mono ?_;rintro e w2 ⟨rfl,rfl⟩;exact⟨rfl,eZ HW.out HT.out HR.out⟩
 ·have he:=Nj _ h0;have HF:=hide (F4 p s (skip l) true w1 hR);have HFT:=hide (F3 p s (skip l) 7 w1 hR);have HB:Hid (((skip l).takeWhile dw).length≤3000):=by show _≤_;omega
  have HCl:=hide (fun w'=>Ni (bs ((skip l).takeWhile dw)) w' (by rw[iN];omega));have HW:Hid (word f l=if f ((skip l).takeWhile dw) then .ok ((skip l).takeWhile dw) ((skip l).drop ((skip l).takeWhile dw).length) else .bad 7 (skip l)):=by
   show _=_;unfold word;rw[if_neg h0]
  clear hR hT h0;generalize(skip l).takeWhile dw=x at*;cases hf:f x
  ·rw[hf] at HW
   go_wp2_with fail
   refine HF.out.mono ?_;rintro e w2 ⟨rfl,rfl⟩
   go_wp2_with fail
   refine(HG.out x _ HB.out).mono ?_;rintro e w2 ⟨rfl,rfl⟩;rw[hf]
   go_wp2_with fail
   refine HFT.out.mono ?_;rintro e w2 ⟨rfl,rfl⟩;exact⟨rfl,eZ HW.out HT.out HR.out⟩
  ·rw[hf] at HW
   go_wp2_with fail
   refine HF.out.mono ?_;rintro e w2 ⟨rfl,rfl⟩
   go_wp2_with fail
   refine(HG.out x _ HB.out).mono ?_;rintro e w2 ⟨rfl,rfl⟩;rw[hf];have HM1:=hide (HM.out _ HR.out);have HT1:=hide (HT.out.moved (.int .i64 ((pos s (skip l):Int)+x.length)) 1);generalize hk:pos s (skip l)=k at*;clear hk
   go_wp2_with fail
   refine(HCl.out _).mono ?_;rintro e w3 ⟨rfl,hB⟩;have HB3:=hide hB;clear hB;go_wp2;go_ret;exact lT HW.out (HT1.out.trans (Tn.of_below HB3.out)) rfl (HM1.out.below HB3.out)
end Go.Proofs.YtafmbokfkbccaaaGreatDoor
namespace Go.Proofs.YtafmbokfkbccaaaGreatDoor
open Go.RowKit Go.Sort
set_option maxHeartbeats 1000000 in
theorem F5:Fits 320 pE:=fun l w hl=>by
 have HN:=hide (yR l);have HV:Hid (∀w,Calls Tryz.prog 321 #[.string (bs l)] w fun e w'=>e=.returned (.bool (isVar l))∧w'=w):=fun w=>by
  have:=qG (bs l) w;rw[iw] at this;exact this
 have F:Hid (pE l=(isNamed l||isVar l)):=(rfl:_=_);cases h1:isNamed l <;> cases h2:isVar l
 all_goals
  rw[h1] at HN F;rw[h2] at HV F
  go_enter Tryz.func320,Tryz.ntmps320
  go_wp2_with (first
   |(go_at_call 104;refine(HN.out _ hl).mono ?_;rintro e w' ⟨rfl,rfl⟩)
   |(go_at_call 321;refine(HV.out _).mono ?_;rintro e w' ⟨rfl,rfl⟩))
  go_ret;exact⟨bM (by rw[F.out];rfl),rfl⟩
theorem yS (args:Array Value) (w:World):(callFunc 320 args).run Tryz.prog w=.ok (.enter 320 args) w:=enters_of Tryz.func320 (by kernel_rfl) rfl args w
theorem yT (args:Array Value) (w:World):(callFunc 104 args).run Tryz.prog w=.ok (.enter 104 args) w:=enters_of Tryz.func104 (by kernel_rfl) rfl args w
theorem uG {α:Type} {part:Bs→Res α} {n:Nat} {out:List α} {l:Bs} (ht:(took [44] l).1=true):iE part (n+1) out l=(part (took [44] l).2).next fun a r=>iE part n (out++[a]) r:=by
 conv=>lhs;unfold iE
 exact if_pos ht
theorem nH.split {α:Type} {p:Nat} {s:ByteArray} {w w':World} {V:World→Value→α→Prop} {x:Res α} {e:Ending} (h:nH p s w V x e w'):
  Tn p w w'∧((∃a r v,x=.ok a r∧e=.returned v∧V w' v a∧Rd w' p s r)∨∃n r,x=.bad n r∧e=oz n s r∧Rd w' p s r):=by
 obtain⟨h1,h2⟩:=h;refine⟨h1,?_⟩;cases x with
 |ok a r=>obtain⟨⟨v,e1,e2⟩,e3⟩:=h2;exact Or.inl ⟨a,r,v,rfl,e1,e2,e3⟩
 |bad n r=>exact Or.inr ⟨n,r,rfl,h2.1,h2.2⟩
theorem dF {w:World} {b j:Nat} {arr:Array Value} {t:TypeId} (h:w.heap[b]?=some (.cells arr t (0,0))):w.frozen? ⟨b,j,none⟩=false:=by
 simp[World.frozen?,h]
theorem Rd.other {w:World} {p b o:Nat} {s:ByteArray} {l:Bs} (h:Rd w p s l) (hb:b≠p) (h0:p<b) (v:Value):Rd (w.setCell ⟨b,o,none⟩ v) p s l:=
 h.turned ((Tn.refl b w).moved v o) hb h0
set_option maxHeartbeats 1000000 in
theorem Nl (p:Nat) (s:ByteArray) (l:Bs) (w:World) (h:Rd w p s l):
  Calls Tryz.prog 276 #[.pointer (some ⟨p,0,none⟩)] w fun e w'=>nH p s w (dn.val w.heap.size) (term l) e w':=by
 have hlt:=h.lt;have hA:Tn p w (w.alloc (.cells #[.bool false,.string {data:=#[]}] 187)):=(Tn.refl p w).alloc _;have HW:=hide (Nk 320 pE F5 yS p s l _ (h.turned (Tn.of_below (p:=p+1) (((Later.refl w).alloc (.cells #[.bool false,.string {data:=#[]}] 187)).below)) (by omega) (by omega)));have HA:=hide hA;clear h hA
 go_enter Tryz.func276,Tryz.ntmps276
 go_wp2_with fail
 refine HW.out.mono ?_;intro e w1 hE;obtain⟨hT,⟨a,r,v,hx,rfl,rfl,hR⟩|⟨n,r,hx,rfl,hR⟩⟩:=hE.split
 ·have hx':term l=.ok (isVar a,a) r:=by unfold term;rw[hx];rfl
  have hrow:w1.heap[w.heap.size]?=some (.cells #[.bool false,.string {data:=#[]}] 187 (0,0)):=by
   rw[hT.block _ (by simp) (by omega)];exact heap_alloc_new w _
  have z0:w1.cell? ⟨w.heap.size,0,none⟩=some (.bool false):=by rw[cell_of_row _ _ _ _ _ _ hrow];rfl
  have z1:w1.cell? ⟨w.heap.size,1,none⟩=some (.string {data:=#[]}):=by rw[cell_of_row _ _ _ _ _ _ hrow];rfl
  have f0:=dF (j:=0) hrow;have f1:=dF (j:=1) hrow;have HV:Hid (Calls Tryz.prog 321 #[.string (bs a)] w1 fun e w'=>e=.returned (.bool (isVar a))∧w'=w1):=by
   have:=qG (bs a) w1;rw[iw] at this;exact this
  have HX:=hide hx';have HT:=hide (HA.out.trans hT);have HR:=hide hR;have hp0:=hR.ne;clear hx hx' hT hR hrow hE HA
  go_wp2_with (go_at_call 321;refine HV.out.mono ?_;rintro e w' ⟨rfl,rfl⟩)
  refine bodyPost_ret (v:=.agg #[.bool (isVar a),.string (bs a)]) (by simp[results,Tryz.results276,go_sem,z0,z1]) rfl ?_;exact lT HX.out ((HT.out.setCell (Or.inr (Nat.le_refl _)) _).setCell (Or.inr (Nat.le_refl _)) _) ⟨_,rfl,rfl⟩ ((HR.out.other (by omega) (by omega) _).other (by omega) (by omega) _)
 ·have hx':term l=.bad n r:=by unfold term;rw[hx];rfl
  exact⟨rfl,eZ hx' (HA.out.trans hT) hR⟩
end Go.Proofs.YtafmbokfkbccaaaGreatDoor
namespace Go.Proofs.YtafmbokfkbccaaaGreatDoor
open Go.RowKit Go.Sort
theorem IQ:∃i,Tryz.prog.info? 187=some i∧i.zero=some (.agg #[.bool false,.string ByteArray.empty])∧i.size=2∧i.bytes=24:=⟨Tryz.t187,by kernel_rfl,by kernel_rfl,by kernel_rfl,by kernel_rfl⟩
theorem Dr {lo:Nat} {w:World} {v:Value} {l:List dh} (h:dn.own 187 lo w v l) {c:List Value} {x:dh} (hc:dn.is (fun k=>lo≤k∧v.ownBlock≠some k) w c x) (hl:l.length+1≤1099511627776) (hlo:lo≤w.heap.size):
  ∃v' w',(Builtin.append_ #[83,83] 83 #[v,.slice (some ⟨w.heap.size,0,none⟩) 1 1]).run Tryz.prog (w.alloc (.cells c.toArray 187))=.ok v' w'∧dn.own 187 lo w' v' (l++[x])∧(w.alloc (.cells c.toArray 187)).grownBy w' v.ownBlock:=by
 obtain⟨i,i1,i2,i3,i4⟩:=IQ;exact Kind.jP h Tryz.underlying83 i1 i2 i3 i4 rfl (by decide) (by decide) hc hl hlo
set_option maxHeartbeats 2000000 in
theorem IU (p:Nat) (s:ByteArray) (l:Bs) (w:World) (h:Rd w p s l):
  Calls Tryz.prog 275 #[.pointer (some ⟨p,0,none⟩),.int .i64 4,.func (.func 276) #[.pointer (some ⟨p,0,none⟩)] #[]] w fun e w'=>nH p s w (dn.sl (From w.heap.size)) (iF term 4 l) e w':=by
 have hlt:=h.lt;have HC:=hide (Nl p s l w h);clear h
 go_enter Tryz.func275,Tryz.ntmps275
 go_wp2_with fail
 refine HC.out.mono ?_;intro e w1 hE;obtain⟨hT,⟨a,r,v,hx,rfl,⟨c,rfl,hK⟩,hR⟩|⟨n,r,hx,rfl,hR⟩⟩:=hE.split
 ·have HO:=hide (Kind.zS (ty:=187) hK hT.size);have HG:Hid (iE term 3 [a] r=iF term 4 l):=by show _=_;unfold iF;rw[hx];rfl
  have HT:=hide (hT.alloc (.cells c.toArray 187));have HR:=hide (hR.below ((((Later.refl w1).alloc (.cells c.toArray 187))).below));have hlo:=hT.size;obtain rfl:=hK;clear hx hT hR hE HC;go_wp2
  go_loopg [7] 3 (fun k o wr=>∃out l',k+out.length=4∧dn.own 187 w.heap.size wr o out∧iE term k out l'=iF term 4 l∧Rd wr p s l'∧Tn p w wr)
  case atStart=>exact⟨[a],r,rfl,HO.out,HG.out,HR.out,HT.out⟩
  case round=>
   obtain⟨out,l',hk,hO,hG,hR,hT⟩:=hrel;clear HO HG HR HT;obtain⟨ao,co,rfl⟩:=Kind.dI hO;have HO:=hide hO;have HG:=hide hG;have HC:=hide (yQ p s l' [44] wr hR);have HT:=hide hT;clear hO hG hR hT
   go_wp2_with fail
   refine HC.out.mono ?_;rintro e w2 ⟨rfl,hR2,hT2⟩;have HR2:=hide hR2;have HT2:=hide (HT.out.trans hT2);have HO2:=hide (Kind.dB HO.out hT2 hlt);cases ht:(took [44] l').1
   ·have HX:Hid (iF term 4 l=.ok out (took [44] l').2):=by
     show _=_;rw[←HG.out];unfold iE;rw[if_neg (by rw[ht];simp)]
    clear ht hR2 hT2 HO HC HG HT;go_wp2;go_ret;exact lT HX.out HT2.out (Kind.gW HO2.out (by omega)) HR2.out
   ·cases gk with
    |zero=>
     have HX:Hid (iF term 4 l=.bad 5 (took [44] l').2):=by
      show _=_;rw[←HG.out];unfold iE;rw[if_pos ht]
     have hlen:((out.length:Int)==4)=true:=by rw[beq_iff_eq];omega
     have HF:=hide (F3 p s _ 5 w2 hR2);clear ht hR2 hT2 HO HC HG HT
     go_wp2_with fail
     refine HF.out.mono ?_;rintro e w3 ⟨rfl,rfl⟩;exact⟨rfl,eZ HX.out HT2.out HR2.out⟩
    |succ n=>
     have HX:Hid (iF term 4 l=(term (took [44] l').2).next fun a r=>iE term n (out++[a]) r):=by
      show _=_;rw[←HG.out,uG ht]
     have hlen:((out.length:Int)==4)=false:=by rw[beq_eq_false_iff_ne];omega
     have HP:=hide (Nl p s _ w2 hR2);clear ht hR2 hT2 HO HC HG HT
     go_wp2_with fail
     refine HP.out.mono ?_;intro e w3 hE;obtain⟨hT3,⟨a',r',v,hx,rfl,⟨c',rfl,hK3⟩,hR3⟩|⟨n',r',hx,rfl,hR3⟩⟩:=hE.split
     ·have hO3:=Kind.dB HO2.out hT3 hlt;have hsz2:=HT2.out.size;obtain⟨v',w4,hrun,hO4,hg4⟩:=Dr hO3 (dn.mono hK3 fun k hk hB=>⟨by have:w2.heap.size≤k:=hB;omega,fun e=>by
       have h1:=(Kind.fu HO2.out e).2;have h2:w2.heap.size≤k:=hB;omega⟩) (by omega) (by have:=hT3.size;omega)
      have HR4:=hide hrun;have HO4:=hide hO4;have HG4:Hid (iE term n (out++[a']) r'=iF term 4 l):=by show _=_;rw[HX.out,hx];rfl
      have hblk:∀k,k<w3.heap.size→k<w.heap.size→w4.heap[k]?=w3.heap[k]?:=fun k hk hk'=>
       (hg4.block k (by simp;omega) (fun e=>by have:=(Kind.fu HO2.out e.symm).1;omega)).trans (Below.heap_alloc w3 _ k hk)
      have hs4:w3.heap.size≤w4.heap.size:=by have:=hg4.size;simp at this;omega
      have HT4:Hid (Tn p w w4):=⟨hg4.os.trans (hT3.os.trans HT2.out.os),hg4.tape.trans (hT3.tape.trans HT2.out.tape),hg4.output.trans (hT3.output.trans HT2.out.output),by have:=hT3.size;omega,
       fun k hk ho=>(hblk k (by have:=hT3.size;omega) hk).trans ((hT3.block k (by omega) ho).trans (HT2.out.block k hk ho))⟩
      have hRd:Rd w4 p s r':=⟨hR3.short,hR3.suf,by have:=hR3.lt;omega,hR3.ne,
       by rw[World.cell?_of_block (w:=w3) (a:=⟨p,0,none⟩) (hblk p hR3.lt hlt)];exact hR3.c0,by rw[World.cell?_of_block (w:=w3) (a:=⟨p,1,none⟩) (hblk p hR3.lt hlt)];exact hR3.c1,
       by rw[World.frozen?_of_block (w:=w3) (a:=⟨p,1,none⟩) (hblk p hR3.lt hlt)];exact hR3.fz,
       by obtain⟨m,e⟩:=hR3.g;exact⟨m,by rw[World.cell?_of_block (w:=w3) (a:=⟨1,0,none⟩) (hblk 1 (by have:=hR3.lt;have:=hR3.ne;omega) (by have:=hR3.ne;omega))];exact e⟩⟩
      have HRd:=hide hRd;obtain rfl:=hK3;clear hx hE hT3 hR3 hrun hO4 hg4 hO3 hRd hblk HR2
      go_wp2_with (at_builtin;refine wpList_append_run rfl (.tmp 21) (.tmp 24) 83 rfl _ _ _ _ rfl rfl HR4.out ?_)
      go_roundg n
      case measure=>exact Nat.lt_succ_self n
      case rel=>exact⟨out++[a'],r',by simp;omega,HO4.out,HG4.out,HRd.out,HT4.out⟩
     ·have hx':iF term 4 l=.bad n' r':=by rw[HX.out,hx];rfl
      exact⟨rfl,eZ hx' (HT2.out.trans hT3) hR3⟩
 ·have hx':iF term 4 l=.bad n r:=by unfold iF;rw[hx];rfl
  exact⟨rfl,eZ hx' hT hR⟩
end Go.Proofs.YtafmbokfkbccaaaGreatDoor
