import Derived.Test.YtaallngooaaonaaGreatDoorJT1
import Derived.Shelf.SlSortCmp.QuietGrown
import Derived.Deep.QuietTactic
import Derived.BigQuiet
import Derived.RegionTactic
import Derived.BigRegion
import Derived.Deep.RegionLaw
open Go.RowKit Go.Sort
set_option maxHeartbeats 1000000
set_option maxRecDepth 100000
namespace Go.Proofs.YtaallngooaaonaaGreatDoor
theorem begins (x:Int) (w:World):Calls Tryz.prog 63 #[.int .u8 x] w fun e w'=>e=.returned (.bool (jh x))∧w'=w:=by
 go_enter Tryz.func63,Tryz.ntmps63
 go_wp2
 all_goals
  go_ret;refine⟨bU ?_,rfl⟩;rw[Bool.eq_iff_iff];simp[jh];omega
theorem Mq (x:Int) (w:World):Calls Tryz.prog 93 #[.int .u8 x] w fun e w'=>e=.returned (.bool (kD x))∧w'=w:=by
 cases hs:jh x
 ·go_enter Tryz.func93,Tryz.ntmps93
  go_wp2_with (go_at_call 63;refine(begins _ _).mono ?_;rintro e w' ⟨rfl,rfl⟩;rw[hs])
  all_goals
   go_ret;refine⟨bU ?_,rfl⟩;rw[Bool.eq_iff_iff];simp[kD,hs];omega
 go_enter Tryz.func93,Tryz.ntmps93
 go_wp2_with (go_at_call 63;refine(begins _ _).mono ?_;rintro e w' ⟨rfl,rfl⟩;rw[hs])
 go_ret;exact⟨bU (by simp[kD,hs]),rfl⟩
def gK (s:ByteArray):Bool:=
 decide (0<s.size∧s.size≤12)&&(match s.data.toList with|[]=>false|c::r=>jh c.toNat&&r.all fun c=>kD c.toNat)
theorem sK {s:ByteArray} (h:s.size=0∨12<s.size):gK s=false:=by unfold gK;rw[decide_eq_false (by omega)];rfl
theorem size_data (s:ByteArray):s.data.toList.length=s.size:=Array.length_toList
def oC (s:ByteArray) (k:Nat):Bool:=(s.data.toList.drop k).all fun c=>kD c.toNat
theorem qp {s:ByteArray} {k:Nat} (h:k<s.size):oC s k=(kD s[k].toNat&&oC s (k+1)):=by
 have hl:k<s.data.toList.length:=by rw[size_data];exact h
 unfold oC;rw[List.drop_eq_getElem_cons hl,List.all_cons]
 rfl
theorem Gv {s:ByteArray} {k:Nat} (h:s.size≤k):oC s k=true:=by unfold oC;rw[List.drop_eq_nil_of_le (by rw[size_data];exact h)];rfl
theorem oD {s:ByteArray} (h0:0<s.size) (h1:s.size≤12):gK s=(jh (s[0].toNat)&&oC s 1):=by
 unfold gK;have hl:=size_data s;rw[decide_eq_true ⟨h0,h1⟩];cases h:s.data.toList with
 |nil=>rw[h] at hl;simp at hl;omega
 |cons c r=>
  have:s[0]=c:=by have:s[0]=s.data.toList[0]'(by omega):=rfl;rw[this];simp[h]
  simp[this,oC,h]
theorem wG (s:ByteArray) (k:Nat):s.extract 0 k=bs ((raw s).take k):=by
 apply qm
 rw[jI];unfold raw;rw[ByteArray.data_extract];simp
theorem Dc {s:ByteArray} {k:Nat} (h:k<s.size) (h':k<(raw s).length):(raw s)[k]'h'=s[k]'h:=rfl
def goes (s:ByteArray) (k:Nat):Bs:=(raw s).take k++((raw s).drop k).takeWhile gJ
theorem Gw {s:ByteArray} {k:Nat} (h:k<s.size):goes s k=if kD s[k].toNat then goes s (k+1) else(raw s).take k:=by
 have hl:k<(raw s).length:=by rw[bZ];exact h
 unfold goes;rw[List.drop_eq_getElem_cons hl,List.takeWhile_cons,Dc h hl]
 by_cases hc:kD (s[k]'h).toNat=true
 ·rw[if_pos hc,if_pos (show gJ (s[k]'h)=true from hc),List.take_succ_eq_append_getElem hl,Dc h hl];simp
 rw[if_neg hc,if_neg (show¬gJ (s[k]'h)=true from hc)];simp
theorem Ko {s:ByteArray} {k:Nat} (h:s.size≤k):goes s k=(raw s).take k:=by unfold goes;rw[List.drop_eq_nil_of_le (by rw[bZ];exact h)];simp
theorem PI (s:ByteArray) (w:World) (hs:s.size≤4294967296):Calls Tryz.prog 64 #[.string s] w fun e w'=>e=.returned (.string (bs ((raw s).takeWhile gJ)))∧w'=w:=by
 have h0:goes s 0=(raw s).takeWhile gJ:=by simp[goes]
 rw[←h0];clear h0
 go_enter Tryz.func64,Tryz.ntmps64
 go_wp2
 go_loop [3] (fun i=>∃k:Nat,k≤s.size∧i=.int .i64 k∧Hid (goes s 0=goes s k)) (fun i=>s.size- (intOf i).toNat)
 case atStart=>exact⟨0,by omega,rfl,(rfl:_=_)⟩
 obtain⟨k,hk,rfl,HE⟩:=hrel
 by_cases hlt:k<s.size
 ·have ha:=Gw hlt;cases hc:kD (s[k]'hlt).toNat
  ·have F:Hid (goes s 0=(raw s).take k):=by show _=_;rw[HE.out,ha,hc];rfl
   clear ha
   go_wp2_with (go_at_call 93;refine(Mq _ _).mono ?_;rintro e w' ⟨rfl,rfl⟩;rw[hc])
   go_ret;exact⟨by rw[F.out,←wG];rfl,rfl⟩
  have F:Hid (goes s 0=goes s (k+1)):=by show _=_;rw[HE.out,ha,hc];rfl
  clear ha;have HK:Hid (k+1≤s.size):=hlt
  go_wp2_with (go_at_call 93;refine(Mq _ _).mono ?_;rintro e w' ⟨rfl,rfl⟩;rw[hc])
  go_round
  case rel=>exact⟨k+1,HK.out,by go_num,F⟩
  case measure=>have:=HK.out;simp[intOf];omega
 have F:Hid (goes s 0=(raw s).take k):=by show _=_;rw[HE.out,Ko (by omega)]
 go_wp2;go_ret;exact⟨by rw[F.out,←wG];rfl,rfl⟩
theorem kR (f:UInt8→Bool):∀l:Bs,decide ((l.takeWhile f).length=l.length)=l.all f:=by
 intro l
 induction l with
 |nil=>rfl
 |cons c t ih=>
  rw[List.takeWhile_cons,List.all_cons];cases hc:f c;·simp
  simp[←ih]
theorem BH {s:ByteArray} (h0:0<s.size) (h1:s.size≤12) (hb:jh s[0].toNat=true):gK s=decide ((bs ((raw s).takeWhile gJ)).size=s.size):=by
 rw[jJ,←bZ s,kR,oD h0 h1,hb];have hl:0<(raw s).length:=by rw[bZ];exact h0
 have e:raw s=(s[0]'h0)::(raw s).drop 1:=by have:=List.drop_eq_getElem_cons hl;rw[List.drop_zero,Dc h0 hl] at this;exact this
 have hs:gJ (s[0]'h0)=true:=by unfold gJ kD;rw[hb];rfl
 rw[e,List.all_cons,hs]
 rfl
theorem lY (s:ByteArray):gK s=isNamed (raw s):=by
 unfold gK isNamed;rw[bZ];show(decide (0<s.size∧s.size≤12)&&match raw s with|[]=>false|c::r=>jh c.toNat&&r.all fun c=>kD c.toNat)=_;have hl:=bZ s;cases h:raw s with
 |nil=>simp
 |cons c t=>
  rw[h] at hl;have:0<s.size:=by rw[←hl];simp
  simp only[List.all_cons];rw[show(t.all fun c=>kD c.toNat)=t.all gJ from rfl]
  by_cases h12:s.size≤12
  ·rw[decide_eq_true ⟨this,h12⟩,decide_eq_true h12];cases hc:jh c.toNat;·simp
   rw[show gJ c=true by unfold gJ kD;rw[hc];rfl];simp
  rw[decide_eq_false (fun h=>h12 h.2),decide_eq_false h12];rfl
theorem named (s:ByteArray) (w:World):Calls Tryz.prog 37 #[.string s] w fun e w'=>e=.returned (.bool (gK s))∧w'=w:=by
 by_cases h0:0<s.size
 ·by_cases h1:s.size≤12
  ·have h0':((s.size:Int)==0)=false:=by rw[beq_eq_false_iff_ne];omega
   cases hb:jh s[0].toNat
   ·have F:Hid (gK s=false):=by show _=_;rw[oD h0 h1,hb];rfl
    go_enter Tryz.func37,Tryz.ntmps37
    go_wp2_with (go_at_call 63;refine(begins _ _).mono ?_;rintro e w' ⟨rfl,rfl⟩;rw[hb])
    go_ret;exact⟨bU F.out.symm,rfl⟩
   have F:Hid (gK s=decide ((bs ((raw s).takeWhile gJ)).size=s.size)):=BH h0 h1 hb;generalize hx:bs ((raw s).takeWhile gJ)=x at F;have HX:=au hx;clear hx
   go_enter Tryz.func37,Tryz.ntmps37
   go_wp2_with (first
    |(go_at_call 63;refine(begins _ _).mono ?_;rintro e w' ⟨rfl,rfl⟩;rw[hb])
    |(go_at_call 64;refine(PI _ _ (by omega)).mono ?_;rintro e w' ⟨rfl,rfl⟩;rw[HX.out]))
   go_ret;refine⟨bU ?_,rfl⟩;rw[F.out,Bool.eq_iff_iff];simp;omega
  rw[sK (Or.inr (by omega))];have h0':((s.size:Int)==0)=false:=by rw[beq_eq_false_iff_ne];omega
  go_enter Tryz.func37,Tryz.ntmps37
  go_wp2;go_ret;exact⟨rfl,rfl⟩
 rw[sK (Or.inl (by omega))];have h0':((s.size:Int)==0)=true:=by rw[beq_iff_eq];omega
 go_enter Tryz.func37,Tryz.ntmps37
 go_wp2;go_ret;exact⟨rfl,rfl⟩
theorem Mr (s:ByteArray) (w:World):Calls Tryz.prog 39 #[.string s] w fun e w'=>e=.returned (.bool (!gK s))∧w'=w:=by
 generalize hr:gK s=r;have R:Hid _:=hr;clear hr
 go_enter Tryz.func39,Tryz.ntmps39
 go_wp2_with (go_at_call 37;refine(named _ _).mono ?_;rintro e w' ⟨rfl,rfl⟩;rw[R.out])
 go_ret;exact⟨rfl,rfl⟩
def fV (l:List ByteArray) (k:Nat):Bool:=(l.drop k).any fun s=> !gK s
theorem sM {l:List ByteArray} {k:Nat} (h:k<l.length):fV l k=(!gK (l.getD k ByteArray.empty)||fV l (k+1)):=by unfold fV;rw[List.drop_eq_getElem_cons h,List.any_cons,List.getD_eq_getElem?_getD,List.getElem?_eq_getElem h];rfl
theorem wH {l:List ByteArray} {k:Nat} (h:l.length≤k):fV l k=false:=by unfold fV;rw[List.drop_eq_nil_of_le h];rfl
theorem indexFunc (v:Value) (l:List ByteArray) (w:World) (h:Strs w v l):
  Calls Tryz.prog 65 #[v,.func (.func 39) #[] #[]] w fun e w'=>∃n:Int,e=.returned (.int .i64 n)∧decide (0≤n)=fV l 0∧w'=w:=by
 obtain⟨h0,a,cap,rfl,hc⟩:=h;have HC:Hid _:=hc;clear hc
 go_enter Tryz.func65,Tryz.ntmps65
 go_wp2
 go_loop [8] (fun i=>∃k:Nat,k≤l.length∧i=.int .i64 k∧Hid (fV l 0=fV l k)) (fun i=>l.length- (intOf i).toNat)
 case atStart=>exact⟨0,by omega,rfl,(rfl:_=_)⟩
 obtain⟨k,hk,rfl,HE⟩:=hrel
 by_cases hlt:k<l.length
 ·obtain⟨b,off,rfl,_,hcell⟩:=HC.out (by intro e;rw[e] at hlt;simp at hlt);have h1:=hcell k hlt;have hs:=sM hlt;clear hcell;generalize l.getD k ByteArray.empty=s at*;cases hn:gK s
  ·have F:Hid (fV l 0=true):=by show _=_;rw[HE.out,hs,hn];rfl
   clear hs
   go_wp2_with (go_at_call 39;refine(Mr _ _).mono ?_;rintro e w' ⟨rfl,rfl⟩;rw[hn])
   go_ret;exact⟨_,rfl,by rw[F.out];simp,rfl⟩
  have F:Hid (fV l 0=fV l (k+1)):=by show _=_;rw[HE.out,hs,hn];rfl
  clear hs
  go_wp2_with (go_at_call 39;refine(Mr _ _).mono ?_;rintro e w' ⟨rfl,rfl⟩;rw[hn])
  go_round
  case rel=>exact⟨k+1,by omega,by go_num,F⟩
  case measure=>simp[intOf];omega
 have F:Hid (fV l 0=false):=by show _=_;rw[HE.out,wH (by omega)]
 go_wp2;go_ret;exact⟨_,rfl,by rw[F.out];simp,rfl⟩
theorem zL (v:Value) (l:List ByteArray) (w:World) (h:Strs w v l):
  Calls Tryz.prog 38 #[v,.func (.func 39) #[] #[]] w fun e w'=>e=.returned (.bool (fV l 0))∧w'=w:=by
 have hI:=indexFunc v l w h;obtain⟨h0,a,cap,rfl,hc⟩:=h;have HI:=au hI;clear hc hI
 go_enter Tryz.func38,Tryz.ntmps38
 go_wp2_with (go_at_call 65;refine HI.out.mono ?_;rintro e w' ⟨n,rfl,hn,rfl⟩;replace hn:=au hn)
 go_ret;exact⟨bU (bK hn),rfl⟩
def fG (f:aN):Int:=if !gK f.1 then 7 else if 4<f.2.length then 5 else if fV f.2 0 then 7 else 0
theorem wrong (v:Value) (f:aN) (w:World) (h:dD w v f):
  Calls Tryz.prog 19 #[v] w fun e w'=>e=.returned (.int .i64 (fG f))∧ak w w':=by
 obtain⟨s,rfl,k⟩:=h;have HC:Hid (∀w',ak w w'→Calls Tryz.prog 38 #[s,.func (.func 39) #[] #[]] w' fun e w''=>e=.returned (.bool (fV f.2 0))∧w''=w'):=fun w' hw=>zL s f.2 w' (k.later hw);have l0:=k.1;obtain⟨a,c,rfl⟩:=bA k;clear k;obtain⟨n,x⟩:=f;unfold fG;dsimp only at*;cases hn:gK n
 ·go_enter Tryz.func19,Tryz.ntmps19
  go_wp2_with (go_at_call 37;refine(named _ _).mono ?_;rintro e w' ⟨rfl,rfl⟩;rw[hn])
  go_ret;exact⟨rfl,(ak.refl _).alloc _⟩
 by_cases h4:4<x.length
 ·rw[if_pos h4]
  go_enter Tryz.func19,Tryz.ntmps19
  go_wp2_with (go_at_call 37;refine(named _ _).mono ?_;rintro e w' ⟨rfl,rfl⟩;rw[hn])
  go_ret;exact⟨rfl,(ak.refl _).alloc _⟩
 rw[if_neg h4];cases hb:fV x 0
 all_goals
  rw[hb] at HC
  go_enter Tryz.func19,Tryz.ntmps19
  go_wp2_with (first
   |(go_at_call 37;refine(named _ _).mono ?_;rintro e w' ⟨rfl,rfl⟩;rw[hn])
   |(go_at_call 38;refine(HC.out _ ((ak.refl _).alloc _)).mono ?_;rintro e w' ⟨rfl,rfl⟩))
  go_ret;exact⟨rfl,(ak.refl _).alloc _⟩
def lM (f g:aN):Bool:=decide (fO f g<0)
theorem yj (a b:ByteArray):decide (jg a b<0)=Op.bytesLess a.toList b.toList:=by
 unfold jg;cases h:Op.bytesLess a.toList b.toList;·cases h2:(a.toList==b.toList) <;> simp
 simp
theorem BI {a b:ByteArray} (h:(a.toList==b.toList)=false):jg a b≠0:=by intro e;rw[cK.zero _ _ e] at h;simp at h
theorem yt {a b:ByteArray} (h:(a.toList==b.toList)=true):jg a b=0:=by
 have:a.toList=b.toList:=by simpa using h
 rw[toList_inj this];exact cK.refl b
theorem Ev {f g:aN} (h:(f.1.toList==g.1.toList)=false):lM f g=Op.bytesLess f.1.toList g.1.toList:=by unfold lM fO;rw[if_pos (BI h),yj]
theorem Gx {f g:aN} (h:(f.1.toList==g.1.toList)=true) (hl:((f.2.length:Int)==(g.2.length:Int))=false):lM f g=decide ((f.2.length:Int)<(g.2.length:Int)):=by
 have hl':(f.2.length:Int)≠(g.2.length:Int):=by simpa using hl
 unfold lM fO;rw[if_neg (by rw[yt h];simp)];unfold vP
 by_cases hh:(f.2.length:Int)<(g.2.length:Int)
 ·simp[hh]
 have h2:(g.2.length:Int)<(f.2.length:Int):=by omega
 rw[if_neg hh,if_pos h2,decide_eq_false hh];rfl
theorem Ew {f g:aN} (h:(f.1.toList==g.1.toList)=true) (hl:f.2.length=g.2.length):lM f g=decide (cmpL f.2 g.2<0):=by unfold lM fO;rw[if_neg (by rw[yt h];simp),if_neg (by rw[hl,kC.refl];simp)]
theorem Ey (n1 n2:ByteArray) (x y:List ByteArray) (a1 a2:Option Addr) (c1 c2:Nat) (w:World) (hn:(n1.toList==n2.toList)=true) (hl:x.length=y.length) (hx:x.length≤8796093022208)
  (k1:x≠[]→∃b off,a1=some ⟨b,off,none⟩∧b<w.heap.size∧∀i,i<x.length→w.cell? ⟨b,off+i,none⟩=some (.string (x.getD i ByteArray.empty)))
  (k2:y≠[]→∃b off,a2=some ⟨b,off,none⟩∧b<w.heap.size∧∀i,i<y.length→w.cell? ⟨b,off+i,none⟩=some (.string (y.getD i ByteArray.empty))):
  Calls Tryz.prog 50 #[.agg #[.string n1,.slice a1 x.length c1],.agg #[.string n2,.slice a2 y.length c2]] w fun e w'=>e=.returned (.bool (decide (cmpL x y<0)))∧ak w w':=by
 have K1:=au k1;have K2:=au k2;clear k1 k2;have hl2:((x.length:Int)==(y.length:Int))=true:=by rw[hl];simp
 have HL:=au hl;clear hl
 go_enter Tryz.func50,Tryz.ntmps50
 go_wp2
 go_loopw [33] (fun i wr=>∃k q:Nat,k≤x.length∧i=.int .i64 k∧wr=((w.alloc (.cells #[.string n1,.slice a1 x.length c1] 27)).alloc (.cells #[.string n2,.slice a2 y.length c2] 27)).drewN q∧Hid (cmpL x y=cmpL (x.drop k) (y.drop k))) (fun i _=>x.length- (intOf i).toNat)
 case atStart=>exact⟨0,0,Nat.zero_le _,rfl,rfl,(by simp:cmpL x y=cmpL (x.drop 0) (y.drop 0))⟩
 obtain⟨k,q,hk,rfl,rfl,HE⟩:=hrel
 by_cases hlt:k<x.length
 ·have hne:x≠[]:=by intro e;rw[e] at hlt;simp at hlt
  have hlt2:k<y.length:=by have:=HL.out;omega
  have hne2:y≠[]:=by intro e;rw[e] at hlt2;simp at hlt2
  obtain⟨b,off,rfl,hb,hc⟩:=K1.out hne;obtain⟨b2,off2,rfl,hb2,hd⟩:=K2.out hne2;have g1:=hc k hlt;have g2:=hd k hlt2;have e:=zJ x y k hlt hlt2;clear hc hd;have hltz:(k:Int)<(x.length:Int):=by omega
  have XY:(k:Int)<(y.length:Int):=by omega
  generalize x.getD k ByteArray.empty=sx at*;generalize y.getD k ByteArray.empty=sy at*;have E:=au e;clear e;have b1:b<w.heap.size+1:=by omega
  have b3:b2<w.heap.size+1:=by omega
  cases hs:(sx.toList==sy.toList)
  ·have F:Hid (decide (cmpL x y<0)=Op.bytesLess sx.toList sy.toList):=by show _=_;rw[HE.out,E.out,if_pos (BI hs),yj]
   go_wp2
   go_quiet (fail)
   go_wp2
   go_quiet (fail)
   go_wp2;go_ret;exact⟨bU F.out.symm,(by repeat (first|exact ak.refl _|assumption|refine ak.drewN ?_ _|refine ak.drew ?_|refine ak.alloc ?_ _|refine ak.grow ?_ _))⟩
  have F:Hid (cmpL x y=cmpL (x.drop (k+1)) (y.drop (k+1))):=by show _=_;rw[HE.out,E.out,if_neg (by rw[yt hs];simp)]
  go_wp2
  go_quiet (fail)
  go_wp2
  go_roundw
  case rel=>exact⟨k+1,_,by omega,by go_num,rfl,F⟩
  case measure=>simp[intOf];omega
 have F:Hid (cmpL x y=0):=by show _=_;rw[HE.out,oz x y k (by omega),if_neg (by have:=HL.out;omega)]
 go_wp2;go_ret;exact⟨bU (by rw[F.out];simp),(by repeat (first|exact ak.refl _|assumption|refine ak.drewN ?_ _|refine ak.drew ?_|refine ak.alloc ?_ _|refine ak.grow ?_ _))⟩
theorem Kr (v1 v2 : Value) (f g : aN) (w : World) (h1 : dD w v1 f) (h2 : dD w v2 g) :
    Calls Tryz.prog 50 #[v1, v2] w fun e w' => e = .returned (.bool (lM f g)) ∧ ak w w' := by
  obtain ⟨s1, rfl, l1, a1, c1, rfl, k1⟩ := h1
  obtain ⟨s2, rfl, l2, a2, c2, rfl, k2⟩ := h2
  cases hn : (f.1.toList == g.1.toList)
  · rw [Ev hn]
    clear k1 k2
    go_enter Tryz.func50, Tryz.ntmps50
    go_wp2
    go_ret
    exact ⟨rfl, (by repeat (first | exact ak.refl _ | assumption | refine ak.drewN ?_ _ | refine ak.drew ?_ | refine ak.alloc ?_ _ | refine ak.grow ?_ _))⟩
  · cases hl : ((f.2.length : Int) == (g.2.length : Int))
    · rw [Gx hn hl]
      clear k1 k2
      go_enter Tryz.func50, Tryz.ntmps50
      go_wp2
      go_ret
      exact ⟨bU (by simp), (by repeat (first | exact ak.refl _ | assumption | refine ak.drewN ?_ _ | refine ak.drew ?_ | refine ak.alloc ?_ _ | refine ak.grow ?_ _))⟩
    · have hl' : f.2.length = g.2.length := by have : (f.2.length : Int) = (g.2.length : Int) := by simpa using hl
                                               omega
      rw [Ew hn hl']
      exact Ey f.1 g.1 f.2 g.2 a1 a2 c1 c2 w hn hl' l1 k1 k2
def rT (f g:aN):Bool:=decide (fO f g=0)
theorem Ez (f g:aN):rT f g=(!lM f g&& !lM g f):=by have:=aW.swap f g;unfold rT lM;rw[Bool.eq_iff_iff];simp;omega
theorem sN {f g:aN}:rT f g=true↔f=g:=by unfold rT;rw[decide_eq_true_eq];exact⟨aW.zero f g,fun e=>by rw[e];exact aW.refl g⟩
theorem Gy (v1 v2:Value) (f g:aN) (w:World) (h1:dD w v1 f) (h2:dD w v2 g):
  Calls Tryz.prog 26 #[v1,v2] w fun e w'=>e=.returned (.bool (rT f g))∧ak w w':=by
 have H1:Hid (∀w',ak w w'→Calls Tryz.prog 50 #[v1,v2] w' fun e w''=>e=.returned (.bool (lM f g))∧ak w' w''):=fun w' hw=>Kr v1 v2 f g w' (h1.later hw) (h2.later hw);have H2:Hid (∀w',ak w w'→Calls Tryz.prog 50 #[v2,v1] w' fun e w''=>e=.returned (.bool (lM g f))∧ak w' w''):=fun w' hw=>Kr v2 v1 g f w' (h2.later hw) (h1.later hw);obtain⟨s1,rfl,l1,a1,c1,rfl,k1⟩:=h1;obtain⟨s2,rfl,l2,a2,c2,rfl,k2⟩:=h2;clear k1 k2;rw[Ez];generalize lM f g=x at*;generalize lM g f=y at*;obtain⟨n1,ar1⟩:=f;obtain⟨n2,ar2⟩:=g;dsimp only at*;cases x
 ·go_enter Tryz.func26,Tryz.ntmps26
  go_wp2_with fail
  refine(H1.out _ (by repeat (first|exact ak.refl _|refine ak.alloc ?_ _))).mono ?_;rintro e w1 ⟨rfl,hL⟩;have z1:w1.cell? ⟨w.heap.size,0,none⟩=some (.string n1):=by rw[hL.cell (by simp;omega)];simp
  have z2:w1.cell? ⟨w.heap.size,1,none⟩=some (.slice a1 ar1.length c1):=by rw[hL.cell (by simp;omega)];simp
  have z3:w1.cell? ⟨w.heap.size+1,0,none⟩=some (.string n2):=by rw[hL.cell (by simp)];simp
  have z4:w1.cell? ⟨w.heap.size+1,1,none⟩=some (.slice a2 ar2.length c2):=by rw[hL.cell (by simp)];simp
  go_wp2_with fail
  refine(H2.out _ (ak.trans (((ak.refl _).alloc _).alloc _) hL)).mono ?_;rintro e w2 ⟨rfl,hL2⟩;go_wp2;go_ret;exact⟨by simp,(((ak.refl _).alloc _).alloc _).trans (hL.trans hL2)⟩
 go_enter Tryz.func26,Tryz.ntmps26
 go_wp2_with fail
 refine(H1.out _ (by repeat (first|exact ak.refl _|refine ak.alloc ?_ _))).mono ?_;rintro e w1 ⟨rfl,hL⟩;go_wp2;go_ret;exact⟨by simp,(((ak.refl _).alloc _).alloc _).trans hL⟩
def dY (l:List aN) (f:aN) (k:Nat):Bool:=(l.drop k).any fun x=>rT x f
theorem BJ {l:List aN} {f:aN} {k:Nat} (h:k<l.length):dY l f k=(rT (l.getD k aC) f||dY l f (k+1)):=by unfold dY;rw[List.drop_eq_getElem_cons h,List.any_cons,List.getD_eq_getElem?_getD,List.getElem?_eq_getElem h];rfl
theorem EB {l:List aN} {f:aN} {k:Nat} (h:l.length≤k):dY l f k=false:=by unfold dY;rw[List.drop_eq_nil_of_le h];rfl
theorem Facts.at {w:World} {b off:Nat} {n cap:Nat} {l:List aN} (h:Facts w (.slice (some ⟨b,off,none⟩) n cap) l) {k:Nat} (hk:k<l.length):
  b<w.heap.size∧∃a len c,w.cell? ⟨b,off+k*2,none⟩=some (.string (l.getD k aC).1)∧w.cell? ⟨b,off+k*2+1,none⟩=some (.slice a len c)∧dD w (.agg #[.string (l.getD k aC).1,.slice a len c]) (l.getD k aC):=by
 obtain⟨_,a,cap',e,h1⟩:=h;obtain⟨b',off',e',hb,hc⟩:=h1 (by intro e;rw[e] at hk;simp at hk);rw[e'] at e;simp only[Value.slice.injEq,Option.some.injEq,Addr.mk.injEq] at e;obtain⟨⟨rfl,rfl,_⟩,_,_⟩:=e;obtain⟨c1,s,c2,c3⟩:=hc k hk;obtain⟨a2,cp,rfl⟩:=bA c3;exact⟨hb,a2,_,cp,c1,c2,_,rfl,c3⟩
theorem Facts.addr {w:World} {v:Value} {l:List aN} (h:Facts w v l):∃a cap,v=.slice a l.length cap∧l.length≤3518437208883∧(l=[]∨∃b off,a=some ⟨b,off,none⟩):=by
 obtain⟨h0,a,cap,rfl,h1⟩:=h;refine⟨a,cap,rfl,h0,?_⟩
 by_cases e:l=[]
 ·exact Or.inl e
 obtain⟨b,off,rfl,_⟩:=h1 e;exact Or.inr ⟨b,off,rfl⟩
theorem rIn (v1 v2:Value) (l:List aN) (f:aN) (w:World) (h1:Facts w v1 l) (h2:dD w v2 f):
  Calls Tryz.prog 24 #[v1,v2] w fun e w'=>e=.returned (.bool (dY l f 0))∧ak w w':=by
 have H1:=au h1;have H2:=au h2;obtain⟨s2,rfl,l2,a2,c2,rfl,_⟩:=h2;obtain⟨a,cap,rfl,hn,hz⟩:=h1.addr;clear h1
 go_enter Tryz.func24,Tryz.ntmps24
 go_wp2
 go_loopw [9] (fun i wr=>∃k:Nat,k≤l.length∧i=.int .i64 k∧ak (w.alloc (.cells #[.string f.1,.slice a2 f.2.length c2] 27)) wr∧Hid (dY l f 0=dY l f k)) (fun i _=>l.length- (intOf i).toNat)
 case atStart=>exact⟨0,by omega,rfl,ak.refl _,(rfl:_=_)⟩
 obtain⟨k,hk,rfl,hL,HE⟩:=hrel
 by_cases hlt:k<l.length
 ·rcases hz with rfl|⟨b,off,rfl⟩;·simp at hlt
  have hL0:ak w wr:=((ak.refl _).alloc _).trans hL;obtain⟨hb,ax,lx,cx,g1,g2,fx⟩:=(H1.out.later hL0).at hlt;have z0:wr.cell? ⟨w.heap.size,0,none⟩=some (.string f.1):=by rw[hL.cell (by simp)];simp
  have z1:wr.cell? ⟨w.heap.size,1,none⟩=some (.slice a2 f.2.length c2):=by rw[hL.cell (by simp)];simp
  have z2:w.heap.size<wr.heap.size:=by have:=hL.size;simp at this;omega
  have hs:=BJ (f:=f) hlt;have hltz:(k:Int)<(l.length:Int):=by omega
  have HC:Hid (∀w',ak wr w'→Calls Tryz.prog 26 #[.agg #[.string (l.getD k aC).1,.slice ax lx cx],.agg #[.string f.1,.slice a2 f.2.length c2]] w' fun e w''=>e=.returned (.bool (rT (l.getD k aC) f))∧ak w' w''):=
   fun w' hw=>Gy _ _ _ _ w' (fx.later hw) ((H2.out.later hL0).later hw)
  generalize(l.getD k aC).1=nk at*;generalize rT (l.getD k aC) f=r at*;clear fx;cases r
  ·have F:Hid (dY l f 0=dY l f (k+1)):=by show _=_;rw[HE.out,hs];rfl
   clear hs
   go_wp2_with (go_at_call 26;refine(HC.out _ ((ak.refl _).alloc _)).mono ?_;rintro e w1 ⟨rfl,hL1⟩)
   go_roundw
   case rel=>exact⟨k+1,by omega,by go_num,hL.trans (((ak.refl _).alloc _).trans hL1),F⟩
   case measure=>simp[intOf];omega
  have F:Hid (dY l f 0=true):=by show _=_;rw[HE.out,hs];rfl
  clear hs
  go_wp2_with (go_at_call 26;refine(HC.out _ ((ak.refl _).alloc _)).mono ?_;rintro e w1 ⟨rfl,hL1⟩)
  go_ret;exact⟨bU F.out.symm,hL0.trans (((ak.refl _).alloc _).trans hL1)⟩
 have F:Hid (dY l f 0=false):=by show _=_;rw[HE.out,EB (by omega)]
 go_wp2;go_ret;exact⟨bU F.out.symm,((ak.refl _).alloc _).trans hL⟩
theorem yu:∃i,Tryz.prog.info? 9=some i∧i.zero=some (.string ByteArray.empty)∧i.size=1∧i.bytes=16:=⟨Tryz.t9,by kernel_rfl,by kernel_rfl,by kernel_rfl,by kernel_rfl⟩
theorem yw:∃i,Tryz.prog.info? 27=some i∧i.zero=some (.agg #[.string ByteArray.empty,.slice none 0 0])∧i.size=2∧i.bytes=40:=⟨Tryz.t27,by kernel_rfl,by kernel_rfl,by kernel_rfl,by kernel_rfl⟩
theorem BK (w:World) (b off cap:Nat) (l:List ByteArray) (hl:l.length≤8796093022208) (h0:l≠[]) (hc:∀i,i<l.length→w.cell? ⟨b,off+i,none⟩=some (.string (l.getD i ByteArray.empty))):
  ∃cp arr,(Builtin.append_ #[25,25] 25 #[.slice none 0 0,.slice (some ⟨b,off,none⟩) l.length cap]).run Tryz.prog w=.ok (.slice (some ⟨w.heap.size,0,none⟩) l.length cp) (w.drew.alloc (.cells arr 9))∧
   ∀i,i<l.length→arr[i]?=some (.string (l.getD i ByteArray.empty)):=by
 obtain⟨i,i1,i2,i3,i4⟩:=yu;have hn:0<l.length:=List.length_pos_iff.2 h0;have hcells:∀j u,(l.map Value.string)[j]?=some u→w.cell? ((⟨b,off,none⟩:Addr).add j)=some u:=by
  intro j u hu;rw[List.getElem?_map] at hu;cases hj:l[j]? with
  |none=>rw[hj] at hu;cases hu
  |some s=>
   rw[hj] at hu;have hlt:j<l.length:=(List.getElem?_eq_some_iff.1 hj).1;have:=hc j hlt;rw[List.getD_eq_getElem?_getD,hj] at this;rw[Addr.add_lit];rw[this];simpa using hu
 have hr:=run_append_nil (P:=Tryz.prog) w 25 25 9 i (.string ByteArray.empty) Tryz.underlying25 i1 i2 ⟨b,off,none⟩ l.length cap (l.map Value.string) (by rw[i3];simp) hcells (by omega) (by omega) (by rw[i4];omega);refine⟨_,_,hr,fun k hk=>?_⟩;rw[Array.getElem?_append_left (by simpa using hk)];simp[hk]
theorem iI {P:Program} {ops:Array Oper} {o:Oper} {a:Act} {w:World} {K:Act→World→Prop} {Q:Exit→Act→World→Prop} {E:Prop}
  (hg:o.guard=none) (s x:Operand) (t:TypeId) (hop:o.op=Op.call {callee:=Callee.builtin Builtin.append,args:=#[s,x],argTypes:=#[t,t]})
  (v1 v2 v':Value) (w':World) (hs:a.eval s=v1) (hx:a.eval x=v2) (hrun:(Builtin.append_ #[t,t] o.type #[v1,v2]).run P w=.ok v' w') (hK:K (a.put o.dst v') w'):
  if Region.wanted o (yielded ops a.tmps)=true then Oper.wp P o a w K Q else E:=by
 have hw:Region.wanted o (yielded ops a.tmps)=true:=by simp[Region.wanted,hg]
 rw[if_pos hw];unfold Oper.wp;simp[execOp,hop,resolve,invoke,builtin,hs,hx,hrun,Result.andThen];exact hK
theorem Kt (w:World) (arr:Array Value) (l:List ByteArray) (cp:Nat) (t:TypeId) (hl:l.length≤8796093022208) (h:∀i,i<l.length→arr[i]?=some (.string (l.getD i ByteArray.empty))):
  Strs (w.alloc (.cells arr t)) (.slice (some ⟨w.heap.size,0,none⟩) l.length cp) l:=
 ⟨hl,_,cp,rfl,fun _=>⟨w.heap.size,0,rfl,by simp,fun i hi=>by rw[Nat.zero_add,cell_of_row _ w.heap.size i arr t (0,0) (heap_alloc_new w _)];exact h i hi⟩⟩
theorem BL (n:ByteArray) (l:List ByteArray) (b off cap:Nat) (w:World) (hne:l≠[]) (h0:l.length≤8796093022208) (hb:b<w.heap.size) (hcell:∀i,i<l.length→w.cell? ⟨b,off+i,none⟩=some (.string (l.getD i ByteArray.empty))):
  Calls Tryz.prog 84 #[.agg #[.string n,.slice (some ⟨b,off,none⟩) l.length cap]] w fun e w'=>∃s,e=.returned (.agg #[.string n,s])∧Strs w' s l∧ak w w'∧∀k,s.ownBlock=some k→w.heap.size≤k∧k<w'.heap.size:=by
 have hL:ak w ((w.alloc (.cells #[.string n,.slice (some ⟨b,off,none⟩) l.length cap] 27)).alloc (.cells #[.string {data:=#[]},.slice none 0 0] 27)).drew:=(by repeat (first|exact ak.refl _|assumption|refine ak.drewN ?_ _|refine ak.drew ?_|refine ak.alloc ?_ _|refine ak.grow ?_ _));obtain⟨cp,arr,hr,harr⟩:=BK ((w.alloc (.cells #[.string n,.slice (some ⟨b,off,none⟩) l.length cap] 27)).alloc (.cells #[.string {data:=#[]},.slice none 0 0] 27)).drew b off cap l h0 hne (fun i hi=>by rw[hL.cell (p:=⟨b,off+i,none⟩) hb];exact hcell i hi);have HA:=au harr;clear harr hcell hL
 go_enter Tryz.func84,Tryz.ntmps84
 go_wp2
 go_region_law (refine iI rfl (.const (.slice none 0 0)) (.tmp 6) 25 rfl _ _ _ _ (by simp[Act.eval]) (by simp[Act.eval]) hr ?_)
 all_goals
  clear hr;go_wp2;refine bodyPost_ret (v:=.agg #[.string n,.slice (some ⟨w.heap.size+1+1,0,none⟩) l.length cp]) (by simp[results,Tryz.results84,go_sem]) rfl ⟨_,rfl,?_,(by repeat (first|exact ak.refl _|assumption|refine ak.drewN ?_ _|refine ak.drew ?_|refine ak.alloc ?_ _|refine ak.grow ?_ _)),?_⟩
  ·have hs:=Kt ((w.alloc (.cells #[.string n,.slice (some ⟨b,off,none⟩) l.length cap] 27)).alloc (.cells #[.string n,.slice (some ⟨w.heap.size+1+1,0,none⟩) l.length cp] 27)) arr l cp 9 h0 HA.out;have e:((w.alloc (.cells #[.string n,.slice (some ⟨b,off,none⟩) l.length cap] 27)).alloc (.cells #[.string n,.slice (some ⟨w.heap.size+1+1,0,none⟩) l.length cp] 27)).heap.size=w.heap.size+1+1:=by simp
   rw[e] at hs;exact hs.later (by repeat (first|exact ak.refl _|assumption|refine ak.drewN ?_ _|refine ak.drew ?_|refine ak.alloc ?_ _|refine ak.grow ?_ _))
  ·intro k hk;simp[Value.ownBlock] at hk;simp;omega
theorem BM (w:World) (a:Option Addr) (cap:Nat):
  (Builtin.append_ #[25,25] 25 #[.slice none 0 0,.slice a 0 cap]).run Tryz.prog w=.ok (.slice none 0 0) w:=by
 obtain⟨i,i1,i2,i3,i4⟩:=yu;cases a with
 |none=>simp[Builtin.append_,run_underlying Tryz.underlying25,sizeOf,typeInfo,i1,Builtin.lenOf,Builtin.firstCells]
 |some a=>simp[Builtin.append_,run_underlying Tryz.underlying25,sizeOf,typeInfo,i1,Builtin.lenOf,Builtin.firstCells,loadCells,loadCellsFrom]
theorem BN (n:ByteArray) (a:Option Addr) (cap:Nat) (w:World):
  Calls Tryz.prog 84 #[.agg #[.string n,.slice a 0 cap]] w fun e w'=>∃s,e=.returned (.agg #[.string n,s])∧Strs w' s []∧ak w w'∧∀k,s.ownBlock=some k→w.heap.size≤k∧k<w'.heap.size:=by
 go_enter Tryz.func84,Tryz.ntmps84
 go_wp2
 go_region_law (refine iI rfl (.const (.slice none 0 0)) (.tmp 6) 25 rfl (.slice none 0 0) (.slice a 0 cap) (.slice none 0 0) _ (by simp[Act.eval]) (by simp[Act.eval]) (BM _ _ _) ?_)
 all_goals
  go_wp2;refine bodyPost_ret (v:=.agg #[.string n,.slice none 0 0]) (by simp[results,Tryz.results84,go_sem]) rfl ⟨_,rfl,⟨by simp,none,0,rfl,fun h=>absurd rfl h⟩,(by repeat (first|exact ak.refl _|assumption|refine ak.drewN ?_ _|refine ak.drew ?_|refine ak.alloc ?_ _|refine ak.grow ?_ _)),?_⟩;intro k hk;simp[Value.ownBlock] at hk
theorem copied (v:Value) (f:aN) (w:World) (h:dD w v f):
  Calls Tryz.prog 84 #[v] w fun e w'=>∃s,e=.returned (.agg #[.string f.1,s])∧Strs w' s f.2∧ak w w'∧∀k,s.ownBlock=some k→w.heap.size≤k∧k<w'.heap.size:=by
 obtain⟨s,rfl,h0,a,cap,rfl,hc⟩:=h;obtain⟨n,l⟩:=f;dsimp only at*;cases l with
 |nil=>exact BN n a cap w
 |cons x l=>
  obtain⟨b,off,rfl,hb,hcell⟩:=hc (by simp);exact BL n (x::l) b off cap w (by simp) h0 hb hcell
theorem dZ {P:Program} (w:World) (base:Nat) (t ty e:TypeId) (i:TypeInfo) (z:Value) (size bytes:Nat) (ht:P.underlying t=some (.slice e)) (hi:P.info? e=some i) (hz:i.zero=some z)
  (hsize:i.size=size) (hby:i.bytes=bytes) (hzs:z.cells.size=size) (hsz:0<size)
  (v:Value) (n:Nat) (xs:List Value) (hown:w.ownsRow base e size v n xs)
  (a:Addr) (m c:Nat) (news:List Value) (hl:news.length=m*size) (hnews:∀j u,news[j]?=some u→w.cell? (a.add j)=some u) (h1:∀u∈news,u.oneCell'=true)
  (h63:n+m≤maxLen) (hbytes:(n+m)*bytes≤140737488355328) (hbase:base≤w.heap.size):
  ∃v' w',(Builtin.append_ #[t,t] ty #[v,.slice (some a) m c]).run P w=.ok v' w'∧w'.ownsRow base e size v' (n+m) (xs++news)∧w.grownBy w' v.ownBlock∧w.drawn≤w'.drawn∧
   ∀k,v'.ownBlock=some k→v.ownBlock=some k∨w.heap.size≤k:=by
 obtain⟨v',w',hrun,r1,r2,_⟩:=run_append_own (P:=P) w base t ty e i z size bytes ht hi hz hsize hby hzs hsz v n xs hown a m c news hl hnews h1 h63 hbytes hbase;refine⟨v',w',hrun,r1,r2,?_⟩;subst hsize;subst hby;have h63':n+m≤9223372036854775807:=by simp only[maxLen] at h63;omega
 rcases hown.2 with⟨rfl,rfl⟩|⟨g,cap,cur,rfl,hbg,hg,hnc,hcm,hcs,htake⟩
 ·by_cases hm:m=0
  ·subst hm;have hn:news=[]:=List.eq_nil_of_length_eq_zero (by simpa using hl);subst hn;simp[Builtin.append_,run_underlying ht,sizeOf,typeInfo,hi,Builtin.lenOf,Builtin.firstCells,loadCells,loadCellsFrom] at hrun;obtain⟨rfl,rfl⟩:=hrun;exact⟨Nat.le_refl _,fun k hk=>Or.inl hk⟩
  rw[run_append_nil (P:=P) w t ty e i z ht hi hz a m c news hl hnews (by omega) (by omega) (by have hb:=hbytes;simp only[Nat.zero_add] at hb;omega)] at hrun;simp only[Result.ok.injEq] at hrun;obtain⟨rfl,rfl⟩:=hrun;exact⟨Nat.le_succ _,fun k hk=>Or.inr (by simp[Value.ownBlock] at hk;omega)⟩
 by_cases hroom:n+m≤cap
 ·have hfit:n*i.size+news.length≤cur.size:=by rw[hl,hcs,←Nat.add_mul];exact Nat.mul_le_mul_right _ hroom
  rw[run_append_room (P:=P) w t ty e i ht hi g n cap cur hg a m c news hl hnews h1 hroom hfit] at hrun;simp only[Result.ok.injEq] at hrun;obtain⟨rfl,rfl⟩:=hrun;exact⟨Nat.le_refl _,fun k hk=>Or.inl (by simpa[Value.ownBlock] using hk)⟩
 rw[run_append_grow (P:=P) w t ty e i z ht hi hz ⟨g,0,none⟩ n cap xs hown.1 (hown.cells (g:=g) rfl) a m c news hl hnews (by omega) (by omega) (growslice_fits (by omega) hbytes)] at hrun;simp only[Result.ok.injEq] at hrun;obtain⟨rfl,rfl⟩:=hrun;exact⟨Nat.le_succ _,fun k hk=>Or.inr (by simp[Value.ownBlock] at hk;omega)⟩
theorem wpList_append_run {P:Program} {w:World} {ops:Array Oper} {rest:List Oper} {o:Oper} {a:Act} {Q:Exit→Act→World→Prop} (hgd:o.guard=none) (s x:Operand) (t:TypeId)
  (ho:o.op=.call {callee:=.builtin .append,args:=#[s,x],argTypes:=#[t,t]}) (v1 v2 v':Value) (w':World) (hs:a.eval s=v1) (hx:a.eval x=v2)
  (hrun:(Builtin.append_ #[t,t] o.type #[v1,v2]).run P w=.ok v' w') (h:wpList P ops Q rest (a.put o.dst v') w'):wpList P ops Q (o::rest) a w:=
 wpList_plain hgd fun _ hK=>by unfold Oper.wp execOp;simp only[ho,resolve,invoke,builtin,Sem.run_bind,Sem.run_pure,Result.andThen_ok,List.map_toArray,List.map_cons,List.map_nil,hs,hx,hrun];exact hK _ _ h
structure Only (lo hi:Nat) (w w':World):Prop where
 os:w'.os=w.os
 tape:w'.tape=w.tape
 output:w'.output=w.output
 drawn:w.drawn≤w'.drawn
 size:w.heap.size≤w'.heap.size
 block:∀k,k<w.heap.size→k<lo∨hi≤k→w'.heap[k]?=w.heap[k]?
theorem Only.refl (lo hi:Nat) (w:World):Only lo hi w w:=⟨rfl,rfl,rfl,Nat.le_refl _,Nat.le_refl _,fun _ _ _=>rfl⟩
theorem Only.trans {lo hi:Nat} {a b c:World} (h:Only lo hi a b) (k:Only lo hi b c):Only lo hi a c:=
 ⟨k.os.trans h.os,k.tape.trans h.tape,k.output.trans h.output,Nat.le_trans h.drawn k.drawn,Nat.le_trans h.size k.size,fun i hi' ho=>(k.block i (Nat.lt_of_lt_of_le hi' h.size) ho).trans (h.block i hi' ho)⟩
theorem ak.only {lo hi:Nat} {a b:World} (h:ak a b):Only lo hi a b:=
 ⟨h.below.os,h.below.tape,h.below.output,h.drawn,h.size,fun _ hk _=>h.block hk⟩
theorem Only.later {lo hi:Nat} {w0 a b:World} (h:Only lo hi a b) (h0:ak w0 a) (hl:w0.heap.size≤lo):ak w0 b:=
 ak.of_below ⟨h.os.trans h0.below.os,h.tape.trans h0.below.tape,h.output.trans h0.below.output,Nat.le_trans h0.size h.size,fun k hk=>(h.block k (Nat.lt_of_lt_of_le hk h0.size) (Or.inl (by omega))).trans (h0.block hk)⟩ (Nat.le_trans h0.drawn h.drawn)
theorem Only.cell {lo hi:Nat} {a b:World} (h:Only lo hi a b) {p:Addr} (hp:p.block<a.heap.size) (ho:p.block<lo∨hi≤p.block):b.cell? p=a.cell? p:=World.cell?_of_block (w:=a) (h.block _ hp ho)
theorem Only.grown {lo hi lo' hi':Nat} {a b c:World} {row:Option Nat} (h:Only lo hi a b) (hg:b.grownBy c row) (hd:b.drawn≤c.drawn) (hr:∀k,row=some k→a.heap.size≤k) (_:lo'=lo) (_:hi'=hi):Only lo' hi' a c:=by
 subst lo' hi';exact⟨hg.os.trans h.os,hg.tape.trans h.tape,hg.output.trans h.output,Nat.le_trans h.drawn hd,Nat.le_trans h.size hg.size,
  fun k hk ho=>(hg.block k (Nat.lt_of_lt_of_le hk h.size) (fun e=>by have:=hr k e.symm;omega)).trans (h.block k hk ho)⟩
def kE (w:World) (base:Nat) (v:Value) (l:List aN):Prop:=
 ∃xs,w.ownsRow base 27 2 v l.length xs∧∀i,i<l.length→xs[i*2]?=some (.string (l.getD i aC).1)∧∃s,xs[i*2+1]?=some s∧Strs w s (l.getD i aC).2∧∀k,s.ownBlock=some k→base≤k∧k<w.heap.size∧v.ownBlock≠some k
theorem kE.nil (w:World) (base:Nat):kE w base (.slice none 0 0) []:=⟨[],World.ownsRow_nil w base 27 2,fun i hi=>by simp at hi⟩
theorem Strs.kept {w w':World} {s:Value} {l:List ByteArray} (h:Strs w s l) (hs:w.heap.size≤w'.heap.size) (hk:∀k,s.ownBlock=some k→w'.heap[k]?=w.heap[k]?):Strs w' s l:=by obtain⟨h0,a,cap,rfl,h1⟩:=h;refine⟨h0,a,cap,rfl,fun hl=>?_⟩;obtain⟨b,off,rfl,hb,hc⟩:=h1 hl;exact⟨b,off,rfl,Nat.lt_of_lt_of_le hb hs,fun i hi=>by rw[World.cell?_of_block (w:=w) (hk b rfl)];exact hc i hi⟩
theorem Strs.block_lt {w:World} {s:Value} {l:List ByteArray} (h:Strs w s l) (hl:l≠[]):∀k,s.ownBlock=some k→k<w.heap.size:=by obtain⟨h0,a,cap,rfl,h1⟩:=h;obtain⟨b,off,rfl,hb,_⟩:=h1 hl;intro k hk;simp[Value.ownBlock] at hk;omega
theorem Strs.nil {w w':World} {s:Value} (h:Strs w s []):Strs w' s []:=by obtain⟨h0,a,cap,rfl,_⟩:=h;exact⟨h0,a,cap,rfl,fun e=>absurd rfl e⟩
theorem Strs.kept' {w w':World} {s:Value} {l:List ByteArray} (h:Strs w s l) (hs:w.heap.size≤w'.heap.size) (hk:∀k,k<w.heap.size→s.ownBlock=some k→w'.heap[k]?=w.heap[k]?):Strs w' s l:=by
 by_cases hl:l=[]
 ·subst hl;exact h.nil
 exact h.kept hs fun k e=>hk k (h.block_lt hl k e) e
theorem kE.only {lo hi base:Nat} {w w':World} {v:Value} {l:List aN} (h:kE w base v l) (k:Only lo hi w w') (hb:hi≤base):kE w' base v l:=by
 obtain⟨xs,ho,hx⟩:=h;refine⟨xs,⟨ho.1,?_⟩,fun i hi'=>?_⟩
 ·rcases ho.2 with e|⟨g,cap,cur,rfl,hbg,hg,r⟩;·exact Or.inl e
  exact Or.inr ⟨g,cap,cur,rfl,hbg,by rw[k.block g (Array.getElem?_eq_some_iff.1 hg).1 (Or.inr (by omega))];exact hg,r⟩
 obtain⟨c1,s,c2,c3,c4⟩:=hx i hi';exact⟨c1,s,c2,c3.kept' k.size fun j hj e=>k.block j hj (Or.inr (by have:=c4 j e;omega)),fun j e=>⟨(c4 j e).1,Nat.lt_of_lt_of_le (c4 j e).2.1 k.size,(c4 j e).2.2⟩⟩
theorem kE.later {base:Nat} {w w':World} {v:Value} {l:List aN} (h:kE w base v l) (k:ak w w'):kE w' base v l:=h.only (lo:=0) (hi:=0) k.only (Nat.zero_le _)
theorem kE.facts {base:Nat} {w:World} {v:Value} {l:List aN} (h:kE w base v l) (hl:l.length≤3518437208883):Facts w v l:=by
 obtain⟨xs,ho,hx⟩:=h;rcases ho.2 with⟨rfl,e⟩|⟨g,cap,cur,rfl,hbg,hg,_,_,hcs,htake⟩;·have:l=[]:=List.eq_nil_of_length_eq_zero e;subst this;exact⟨hl,none,0,rfl,fun e=>absurd rfl e⟩
 refine⟨hl,_,cap,rfl,fun _=>⟨g,0,rfl,(Array.getElem?_eq_some_iff.1 hg).1,fun i hi=>?_⟩⟩;obtain⟨c1,s,c2,c3,_⟩:=hx i hi;have cellOf:∀j u,xs[j]?=some u→w.cell? ⟨g,0+j,none⟩=some u:=fun j u hu=>by
  have:=ho.cells (g:=g) rfl j u hu
  rwa [Addr.add_lit] at this
 exact⟨cellOf _ _ c1,s,by rw[Nat.add_assoc];exact cellOf _ _ c2,c3⟩
theorem kE.append {base:Nat} {w:World} {v:Value} {l:List aN} (h:kE w base v l) (f:aN) (s:Value) (hs:Strs w s f.2) (hsb:∀k,s.ownBlock=some k→base≤k∧k<w.heap.size∧v.ownBlock≠some k) (hl:l.length+1≤3518437208883) (hbase:base≤w.heap.size) (h1:s.oneCell'=true):
  ∃v' w',(Builtin.append_ #[24,24] 24 #[v,.slice (some ⟨w.heap.size,0,none⟩) 1 1]).run Tryz.prog (w.alloc (.cells #[.string f.1,s] 27))=.ok v' w'∧kE w' base v' (l++[f])∧(w.alloc (.cells #[.string f.1,s] 27)).grownBy w' v.ownBlock∧w.drawn≤w'.drawn:=by
 obtain⟨xs,ho,hx⟩:=h;obtain⟨i,i1,i2,i3,i4⟩:=yw;have hnews:∀j u,([.string f.1,s]:List Value)[j]?=some u→(w.alloc (.cells #[.string f.1,s] 27)).cell? ((⟨w.heap.size,0,none⟩:Addr).add j)=some u:=by intro j u hu;rw[Addr.add_lit,Nat.zero_add,cell_of_row _ w.heap.size j #[.string f.1,s] 27 (0,0) (heap_alloc_new w _)];simpa using hu
 obtain⟨v',w',hrun,r1,r2,r3,r4⟩:=dZ (P:=Tryz.prog) (w.alloc (.cells #[.string f.1,s] 27)) base 24 24 27 i _ 2 40 Tryz.underlying24 i1 i2 i3 i4 rfl (by omega) v l.length xs (ho.alloc _) ⟨w.heap.size,0,none⟩ 1 1 [.string f.1,s] rfl hnews
  (by intro u hu;simp at hu;rcases hu with rfl|rfl <;> first|rfl|exact h1) (by simp only[maxLen];omega) (by omega) (by simp;omega)
 refine⟨v',w',hrun,⟨xs++[.string f.1,s],by simpa using r1,fun j hj=>?_⟩,r2,r3⟩;have hxl:xs.length=l.length*2:=ho.1;have keep:∀{s':Value} {a:List ByteArray},Strs w s' a→(∀k,k<w.heap.size→s'.ownBlock=some k→v.ownBlock≠some k)→Strs w' s' a:=fun hs' hne=>
  hs'.kept' (Nat.le_trans (by simp) r2.size) fun k hk e=>(r2.block k (by simp;omega) (fun e'=>hne k hk e e'.symm)).trans (Below.heap_alloc w _ k hk)
 have own':∀k,v'.ownBlock=some k→v.ownBlock=some k∨w.heap.size<k:=fun k hk=>by
  rcases r4 k hk with e|e;·exact Or.inl e
  exact Or.inr (by simp at e;omega)
 by_cases hjl:j<l.length
 ·obtain⟨c1,s',c2,c3,c4⟩:=hx j hjl;have e:(l++[f]).getD j aC=l.getD j aC:=by
   rw[List.getD_eq_getElem?_getD,List.getD_eq_getElem?_getD,List.getElem?_append_left hjl]
  rw[e];refine⟨by rw[List.getElem?_append_left (by omega)];exact c1,s',by rw[List.getElem?_append_left (by omega)];exact c2,keep c3 fun k _ e=>(c4 k e).2.2,fun k hk=>⟨(c4 k hk).1,by have:=(c4 k hk).2.1;have:=r2.size;simp at this;omega,fun e=>?_⟩⟩;rcases own' k e with e'|e'
  ·exact(c4 k hk).2.2 e'
  have:=(c4 k hk).2.1;omega
 have hj':j=l.length:=by simp at hj;omega
 subst hj';have e:(l++[f]).getD l.length aC=f:=by rw[List.getD_eq_getElem?_getD,List.getElem?_append_right (Nat.le_refl _)];simp
 rw[e];refine⟨by rw[List.getElem?_append_right (by omega),hxl];simp,s,by rw[List.getElem?_append_right (by omega),hxl];simp,keep hs fun k _ e=>(hsb k e).2.2,fun k hk=>⟨(hsb k hk).1,by have:=(hsb k hk).2.1;have:=r2.size;simp at this;omega,fun e=>?_⟩⟩;rcases own' k e with e'|e'
 ·exact(hsb k hk).2.2 e'
 have:=hsb k hk;omega
def lN (w:World) (base:Nat) (v:Value) (l:List aN):Prop:=
 ∃xs,w.ownsRow base 27 2 v l.length xs∧∀i,i<l.length→xs[i*2]?=some (.string (l.getD i aC).1)∧∃s,xs[i*2+1]?=some s∧Strs w s (l.getD i aC).2∧∀k,s.ownBlock=some k→(l.getD i aC).2≠[]→k<base
theorem Facts.cells {w:World} {a:Addr} {n cap:Nat} {l:List aN} (h:Facts w (.slice (some a) n cap) l):
  ∃xs:List Value,xs.length=l.length*2∧(∀j u,xs[j]?=some u→w.cell? (a.add j)=some u)∧(∀u∈xs,u.oneCell'=true)∧
   ∀i,i<l.length→xs[i*2]?=some (.string (l.getD i aC).1)∧∃s,xs[i*2+1]?=some s∧Strs w s (l.getD i aC).2:=by
 obtain⟨h0,a',cap',e,h1⟩:=h;simp only[Value.slice.injEq] at e;obtain⟨rfl,rfl,rfl⟩:=e
 by_cases hl:l=[]
 ·subst hl;exact⟨[],rfl,fun j u h=>by simp at h,fun u h=>by simp at h,fun i hi=>by simp at hi⟩
 obtain⟨b,off,e,hb,hc⟩:=h1 hl;simp only[Option.some.injEq] at e;subst e;have hsv:∀i:Fin l.length,∃s,w.cell? ⟨b,off+i.1*2+1,none⟩=some s∧Strs w s (l.getD i.1 aC).2:=fun i=>(hc i.1 i.2).2;have key:∀j,j<l.length*2→∃u,w.cell? ⟨b,off+j,none⟩=some u∧u.oneCell'=true:=fun j hj=>by
  have h3:=hc (j/2) (by omega);rcases Nat.mod_two_eq_zero_or_one j with hm|hm
  ·exact⟨.string (l.getD (j/2) aC).1,by rw[←h3.1,show off+j/2*2=off+j by omega],rfl⟩
  obtain⟨s,c2,c3⟩:=h3.2;refine⟨s,by rw[←c2,show off+j/2*2+1=off+j by omega],?_⟩;obtain⟨a,c,rfl⟩:=bA c3
  rfl
 have get:∀j,(List.ofFn fun j:Fin (l.length*2)=>Classical.choose (key j.1 j.2))[j]?=if h:j<l.length*2 then some (Classical.choose (key j h)) else none:=fun j=>by rw[List.getElem?_ofFn]
 refine⟨List.ofFn fun j:Fin (l.length*2)=>Classical.choose (key j.1 j.2),by simp,fun j u hu=>?_,fun u hu=>?_,fun i hi=>?_⟩
 ·rw[get] at hu;split at hu;·rename_i hj;rw[Addr.add_lit,(Classical.choose_spec (key j hj)).1];exact hu
  cases hu
 ·rw[List.mem_ofFn] at hu;obtain⟨j,rfl⟩:=hu;exact(Classical.choose_spec (key j.1 j.2)).2
 obtain⟨c1,s,c2,c3⟩:=hc i hi;have e0:=(Classical.choose_spec (key (i*2) (by omega))).1;have e1:=(Classical.choose_spec (key (i*2+1) (by omega))).1;refine⟨?_,s,?_,c3⟩;·rw[get,dif_pos (by omega),←e0];exact c1
 rw[get,dif_pos (by omega),←e1,←Nat.add_assoc];exact c2
theorem qw (w:World) (base:Nat) (v:Value) (n:Nat) (xs:List Value) (cap:Nat) (ho:w.ownsRow base 27 2 v n xs):
  (Builtin.append_ #[24,24] 24 #[v,.slice none 0 cap]).run Tryz.prog w=.ok v w:=by
 obtain⟨i,i1,i2,i3,i4⟩:=yw;rcases ho.2 with⟨rfl,rfl⟩|⟨g,c,cur,rfl,_,_,hnc,_⟩;·simp[Builtin.append_,run_underlying Tryz.underlying24,sizeOf,typeInfo,i1,Builtin.lenOf,Builtin.firstCells]
 simp[Builtin.append_,run_underlying Tryz.underlying24,sizeOf,typeInfo,i1,Builtin.lenOf,Builtin.firstCells,hnc,storeCells]
def qh (w0 w:World) (a:Addr) (m:List aN):Prop:=
 ∃ys:List Value,ys.length=m.length*2∧(∀j u,ys[j]?=some u→w.cell? (a.add j)=some u)∧(∀u∈ys,u.oneCell'=true)∧
  ∀i,i<m.length→ys[i*2]?=some (.string (m.getD i aC).1)∧∃s,ys[i*2+1]?=some s∧Strs w0 s (m.getD i aC).2
theorem qh.of {w0 w:World} {a:Addr} {n cap:Nat} {m:List aN} (hm:Facts w0 (.slice (some a) n cap) m) (hL:ak w0 w):qh w0 w a m:=by obtain⟨ys,y1,y2,y3,y4⟩:=hm.cells;exact⟨ys,y1,fun j u hu=>by have hc:=y2 j u hu;rw[hL.cell (World.block_lt_of_cell? w0 _ hc)];exact hc,y3,y4⟩
theorem lN.fJ {w0 w:World} {v:Value} {l m:List aN} {a:Addr} {cap:Nat} (h:lN w w0.heap.size v l) (hL:ak w0 w) (hm:qh w0 w a m) (hl:l.length+m.length≤3518437208883):
  ∃v' w',(Builtin.append_ #[24,24] 24 #[v,.slice (some a) m.length cap]).run Tryz.prog w=.ok v' w'∧lN w' w0.heap.size v' (l++m)∧ak w0 w'∧
   w.grownBy w' v.ownBlock∧∀k,v'.ownBlock=some k→v.ownBlock=some k∨w.heap.size≤k:=by
 obtain⟨xs,ho,hx⟩:=h;obtain⟨i,i1,i2,i3,i4⟩:=yw;obtain⟨ys,y1,y2,y3,y4⟩:=hm;obtain⟨v',w',hrun,r1,r2,r3,r4⟩:=dZ (P:=Tryz.prog) w w0.heap.size 24 24 27 i _ 2 40 Tryz.underlying24 i1 i2 i3 i4 rfl (by omega) v l.length xs ho a m.length cap ys y1 y2 y3 (by simp only[maxLen];omega) (by omega) hL.size;have hL':ak w0 w':=ak.of_below (hL.below.grown r2 hL.size fun k hk=>(ho.lt k hk).1) (Nat.le_trans hL.drawn r3);refine⟨v',w',hrun,⟨xs++ys,by rw[List.length_append];exact r1,fun j hj=>?_⟩,hL',r2,r4⟩;have hxl:xs.length=l.length*2:=ho.1;have keep:∀{s:Value} {q:List ByteArray},Strs w s q→(∀k,s.ownBlock=some k→q≠[]→k<w0.heap.size)→Strs w' s q:=fun {s q} hs hk=>by
  by_cases hq:q=[]
  ·subst hq;exact hs.nil
  exact hs.kept r2.size fun k e=>(hL'.block (hk k e hq)).trans (hL.block (hk k e hq)).symm
 by_cases hjl:j<l.length
 ·obtain⟨c1,s',c2,c3,c4⟩:=hx j hjl;have e:(l++m).getD j aC=l.getD j aC:=by
   rw[List.getD_eq_getElem?_getD,List.getD_eq_getElem?_getD,List.getElem?_append_left hjl]
  rw[e];exact⟨by rw[List.getElem?_append_left (by omega)];exact c1,s',by rw[List.getElem?_append_left (by omega)];exact c2,keep c3 c4,c4⟩
 have hjm:j-l.length<m.length:=by simp at hj;omega
 obtain⟨c1,s',c2,c3⟩:=y4 (j-l.length) hjm;have e:(l++m).getD j aC=m.getD (j-l.length) aC:=by rw[List.getD_eq_getElem?_getD,List.getD_eq_getElem?_getD,List.getElem?_append_right (by omega)]
 rw[e];refine⟨by rw[List.getElem?_append_right (by omega),show j*2-xs.length=(j-l.length)*2 by omega];exact c1,s',by rw[List.getElem?_append_right (by omega),show j*2+1-xs.length=(j-l.length)*2+1 by omega];exact c2,c3.later hL',fun k hk ha=>c3.block_lt ha k hk⟩
theorem lN.append {w0 w:World} {v:Value} {l m:List aN} {a:Option Addr} {cap:Nat} (h:lN w w0.heap.size v l) (hL:ak w0 w) (hm:Facts w0 (.slice a m.length cap) m) (hl:l.length+m.length≤3518437208883):
  ∃v' w',(Builtin.append_ #[24,24] 24 #[v,.slice a m.length cap]).run Tryz.prog w=.ok v' w'∧lN w' w0.heap.size v' (l++m)∧ak w0 w'∧
   w.grownBy w' v.ownBlock∧∀k,v'.ownBlock=some k→v.ownBlock=some k∨w.heap.size≤k:=by
 cases a with
 |none=>
  obtain⟨xs,ho,hx⟩:=h;have hm0:m=[]:=by obtain⟨_,a',_,e,h1⟩:=hm;simp only[Value.slice.injEq] at e;refine Classical.byContradiction fun hne=>?_;obtain⟨b,off,e',_⟩:=h1 hne;rw[e'] at e;cases e.1
  subst hm0;refine⟨v,w,qw w _ v _ xs cap ho,?_,hL,⟨rfl,rfl,rfl,Nat.le_refl _,fun _ _ _=>rfl⟩,fun k hk=>Or.inl hk⟩;rw[List.append_nil];exact⟨xs,ho,hx⟩
 |some a=>exact h.fJ hL (qh.of hm hL) hl
theorem lN.later {w w':World} {base:Nat} {v:Value} {l:List aN} (h:lN w base v l) (k:ak w w'):lN w' base v l:=by
 obtain⟨xs,ho,hx⟩:=h;refine⟨xs,⟨ho.1,?_⟩,fun i hi=>?_⟩
 ·rcases ho.2 with e|⟨g,cap,cur,rfl,hbg,hg,r⟩;·exact Or.inl e
  exact Or.inr ⟨g,cap,cur,rfl,hbg,by rw[k.block (Array.getElem?_eq_some_iff.1 hg).1];exact hg,r⟩
 obtain⟨c1,s,c2,c3,c4⟩:=hx i hi;exact⟨c1,s,c2,c3.later k,c4⟩
theorem lN.empty {w:World} {base:Nat} (hb:base≤w.heap.size):lN (w.alloc (.cells #[] 27)) base (.slice (some ⟨w.heap.size,0,none⟩) 0 0) []:=
 ⟨[],World.ownsRow_made w #[] 0 hb (by simp) (by simp),fun i hi=>by simp at hi⟩
theorem lN.nil (w:World) (base:Nat):lN w base (.slice none 0 0) []:=⟨[],World.ownsRow_nil w _ _ _,fun i hi=>by simp at hi⟩
theorem qh.one {w0 w:World} {c:Nat} {f:aN} {s:Value} {t:TypeId} {fr:Nat×Nat} (h:w.heap[c]?=some (.cells #[.string f.1,s] t fr)) (hs:Strs w0 s f.2):qh w0 w ⟨c,0,none⟩ [f]:=by
 refine⟨[.string f.1,s],rfl,fun j u hu=>?_,fun u hu=>?_,fun i hi=>?_⟩;·rw[Addr.add_lit,Nat.zero_add,cell_of_row _ _ _ _ _ _ h];simpa using hu
 ·simp at hu;rcases hu with rfl|rfl
  ·rfl
  obtain⟨a,c,rfl⟩:=bA hs;rfl
 have:i=0:=by simp at hi;omega
 subst this;exact⟨rfl,s,rfl,hs⟩
theorem lN.facts {base:Nat} {w:World} {v:Value} {l:List aN} (h:lN w base v l) (hl:l.length≤3518437208883):Facts w v l:=by
 obtain⟨xs,ho,hx⟩:=h;rcases ho.2 with⟨rfl,e⟩|⟨g,cap,cur,rfl,hbg,hg,_⟩;·have:l=[]:=List.eq_nil_of_length_eq_zero e;subst this;exact⟨hl,none,0,rfl,fun e=>absurd rfl e⟩
 refine⟨hl,_,cap,rfl,fun _=>⟨g,0,rfl,(Array.getElem?_eq_some_iff.1 hg).1,fun i hi=>?_⟩⟩;obtain⟨c1,s,c2,c3,_⟩:=hx i hi;have cellOf:∀j u,xs[j]?=some u→w.cell? ⟨g,0+j,none⟩=some u:=fun j u hu=>by
  have:=ho.cells (g:=g) rfl j u hu
  rwa [Addr.add_lit] at this
 exact⟨cellOf _ _ c1,s,by rw[Nat.add_assoc];exact cellOf _ _ c2,c3⟩
theorem Facts.take {w:World} {a:Option Addr} {n cap:Nat} {l:List aN} (h:Facts w (.slice a n cap) l) {k:Nat} (hk:k≤l.length):Facts w (.slice a (l.take k).length cap) (l.take k):=by
 obtain⟨h0,a',cap',e,h1⟩:=h;simp only[Value.slice.injEq] at e;obtain⟨rfl,rfl,rfl⟩:=e;refine⟨by rw[List.length_take];omega,_,_,rfl,fun hne=>?_⟩;obtain⟨b,off,e,hb,hc⟩:=h1 (by intro e;apply hne;rw[e];simp);refine⟨b,off,e,hb,fun i hi=>?_⟩;rw[List.length_take] at hi;have e:(l.take k).getD i aC=l.getD i aC:=by rw[List.getD_eq_getElem?_getD,List.getD_eq_getElem?_getD,List.getElem?_take,if_pos (by omega)]
 rw[e];exact hc i (by omega)
theorem Facts.drop {w:World} {b off n cap:Nat} {l:List aN} (h:Facts w (.slice (some ⟨b,off,none⟩) n cap) l) {k:Nat} (hk:k≤l.length) (c:Nat):Facts w (.slice (some ⟨b,off+k*2,none⟩) (l.drop k).length c) (l.drop k):=by
 obtain⟨h0,a',cap',e,h1⟩:=h;simp only[Value.slice.injEq] at e;obtain⟨rfl,rfl,rfl⟩:=e;refine⟨by rw[List.length_drop];omega,_,_,rfl,fun hne=>?_⟩;obtain⟨b',off',e,hb,hc⟩:=h1 (by intro e;apply hne;rw[e];simp);simp only[Option.some.injEq,Addr.mk.injEq] at e;obtain⟨rfl,rfl,_⟩:=e;refine⟨b,_,rfl,hb,fun i hi=>?_⟩;rw[List.length_drop] at hi;have e:(l.drop k).getD i aC=l.getD (k+i) aC:=by rw[List.getD_eq_getElem?_getD,List.getD_eq_getElem?_getD,List.getElem?_drop]
 rw[e];have:=hc (k+i) (by omega);rw[show off+(k+i)*2=off+k*2+i*2 by omega] at this;exact this
theorem kE.base {w:World} {base base':Nat} {v:Value} {l:List aN} (h:kE w base v l) (hb:base'≤base):kE w base' v l:=by
 obtain⟨xs,ho,hx⟩:=h;refine⟨xs,⟨ho.1,?_⟩,fun i hi=>?_⟩
 ·rcases ho.2 with e|⟨g,cp,cur,e,hg,r⟩;·exact Or.inl e
  exact Or.inr ⟨g,cp,cur,e,Nat.le_trans hb hg,r⟩
 obtain⟨c1,s,c2,c3,c4⟩:=hx i hi;exact⟨c1,s,c2,c3,fun k hk=>⟨Nat.le_trans hb (c4 k hk).1,(c4 k hk).2⟩⟩
end Go.Proofs.YtaallngooaaonaaGreatDoor
