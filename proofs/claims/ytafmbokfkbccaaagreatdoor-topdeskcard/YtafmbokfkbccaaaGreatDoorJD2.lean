import Derived.Test.YtafmbokfkbccaaaGreatDoorJD1
namespace Go.Proofs.YtafmbokfkbccaaaGreatDoor
open Go.RowKit Go.Sort
set_option maxHeartbeats 400000 in
theorem begins (x:Int) (w:World):Calls Tryz.prog 177 #[.int .u8 x] w fun e w'=>e=.returned (.bool (smallB x))∧w'=w:=by
 go_enter Tryz.func177,Tryz.ntmps177
 go_wp2
 all_goals
  go_ret;refine⟨ret_bool ?_,rfl⟩;rw[Bool.eq_iff_iff];simp[smallB];omega
set_option maxHeartbeats 400000 in
theorem goesOn (x:Int) (w:World):Calls Tryz.prog 241 #[.int .u8 x] w fun e w'=>e=.returned (.bool (signB x))∧w'=w:=by
 cases hs:smallB x
 ·go_enter Tryz.func241,Tryz.ntmps241
  go_wp2_with (go_at_call 177;refine(begins _ _).mono ?_;rintro e w' ⟨rfl,rfl⟩;rw[hs])
  all_goals
   go_ret;refine⟨ret_bool ?_,rfl⟩;rw[Bool.eq_iff_iff];simp[signB,hs];omega
 ·go_enter Tryz.func241,Tryz.ntmps241
  go_wp2_with (go_at_call 177;refine(begins _ _).mono ?_;rintro e w' ⟨rfl,rfl⟩;rw[hs])
  go_ret;exact⟨ret_bool (by simp[signB,hs]),rfl⟩
def namedB (s:ByteArray):Bool:=
 decide (0<s.size∧s.size≤12)&&(match s.data.toList with|[]=>false|c::r=>smallB c.toNat&&r.all fun c=>signB c.toNat)
theorem namedB_long {s:ByteArray} (h:s.size=0∨12<s.size):namedB s=false:=by
 unfold namedB;rw[decide_eq_false (by omega)];rfl
theorem size_data (s:ByteArray):s.data.toList.length=s.size:=Array.length_toList
def restB (s:ByteArray) (k:Nat):Bool:=(s.data.toList.drop k).all fun c=>signB c.toNat
theorem namedB_in {s:ByteArray} (h0:0<s.size) (h1:s.size≤12):namedB s=(smallB (s[0].toNat)&&restB s 1):=by
 unfold namedB;have hl:=size_data s;rw[decide_eq_true ⟨h0,h1⟩];cases h:s.data.toList with
 |nil=>rw[h] at hl;simp at hl;omega
 |cons c r=>
  have:s[0]=c:=by
   have:s[0]=s.data.toList[0]'(by omega):=rfl;rw[this];simp[h]
  simp[this,restB,h]
theorem extract_bs (s:ByteArray) (k:Nat):s.extract 0 k=bs ((raw s).take k):=by
 apply raw_inj
 rw[raw_bs];unfold raw;rw[ByteArray.data_extract];simp
theorem getRaw {s:ByteArray} {k:Nat} (h:k<s.size) (h':k<(raw s).length):(raw s)[k]'h'=s[k]'h:=rfl
def goes (s:ByteArray) (k:Nat):Bs:=(raw s).take k++((raw s).drop k).takeWhile isSign
theorem goes_step {s:ByteArray} {k:Nat} (h:k<s.size):goes s k=if signB s[k].toNat then goes s (k+1) else(raw s).take k:=by
 have hl:k<(raw s).length:=by rw[length_raw];exact h
 unfold goes;rw[List.drop_eq_getElem_cons hl,List.takeWhile_cons,getRaw h hl]
 by_cases hc:signB (s[k]'h).toNat=true
 ·rw[if_pos hc,if_pos (show isSign (s[k]'h)=true from hc),List.take_succ_eq_append_getElem hl,getRaw h hl];simp
 ·rw[if_neg hc,if_neg (show¬isSign (s[k]'h)=true from hc)];simp
theorem goes_end {s:ByteArray} {k:Nat} (h:s.size≤k):goes s k=(raw s).take k:=by
 unfold goes;rw[List.drop_eq_nil_of_le (by rw[length_raw];exact h)];simp
set_option maxHeartbeats 1000000 in
theorem wordC (s:ByteArray) (w:World) (hs:s.size≤4294967296):Calls Tryz.prog 178 #[.string s] w fun e w'=>e=.returned (.string (bs ((raw s).takeWhile isSign)))∧w'=w:=by
 have h0:goes s 0=(raw s).takeWhile isSign:=by simp[goes]
 rw[←h0];clear h0
 go_enter Tryz.func178,Tryz.ntmps178
 go_wp2
 go_loop [3] (fun i=>∃k:Nat,k≤s.size∧i=.int .i64 k∧Hid (goes s 0=goes s k)) (fun i=>s.size- (intOf i).toNat)
 case atStart=>exact⟨0,by omega,rfl,(rfl:_=_)⟩
 case round=>
  obtain⟨k,hk,rfl,HE⟩:=hrel
  by_cases hlt:k<s.size
  ·have ha:=goes_step hlt;cases hc:signB (s[k]'hlt).toNat
   ·have F:Hid (goes s 0=(raw s).take k):=by show _=_;rw[HE.out,ha,hc];rfl
    clear ha
    go_wp2_with (go_at_call 241;refine(goesOn _ _).mono ?_;rintro e w' ⟨rfl,rfl⟩;rw[hc])
    go_ret;exact⟨by rw[F.out,←extract_bs];rfl,rfl⟩
   ·have F:Hid (goes s 0=goes s (k+1)):=by show _=_;rw[HE.out,ha,hc];rfl
    clear ha;have HK:Hid (k+1≤s.size):=hlt
    go_wp2_with (go_at_call 241;refine(goesOn _ _).mono ?_;rintro e w' ⟨rfl,rfl⟩;rw[hc])
    go_round
    case rel=>exact⟨k+1,HK.out,by go_num,F⟩
    case measure=>have:=HK.out;simp[intOf];omega
  ·have F:Hid (goes s 0=(raw s).take k):=by show _=_;rw[HE.out,goes_end (by omega)]
   go_wp2;go_ret;exact⟨by rw[F.out,←extract_bs];rfl,rfl⟩
theorem takeWhile_len (f:UInt8→Bool):∀l:Bs,decide ((l.takeWhile f).length=l.length)=l.all f:=by
 intro l
 induction l with
 |nil=>rfl
 |cons c t ih=>
  rw[List.takeWhile_cons,List.all_cons];cases hc:f c
  ·simp
  ·simp[←ih]
theorem namedB_word {s:ByteArray} (h0:0<s.size) (h1:s.size≤12) (hb:smallB s[0].toNat=true):namedB s=decide ((bs ((raw s).takeWhile isSign)).size=s.size):=by
 rw[size_bs,←length_raw s,takeWhile_len,namedB_in h0 h1,hb];have hl:0<(raw s).length:=by rw[length_raw];exact h0
 have e:raw s=(s[0]'h0)::(raw s).drop 1:=by
  have:=List.drop_eq_getElem_cons hl;rw[List.drop_zero,getRaw h0 hl] at this;exact this
 have hs:isSign (s[0]'h0)=true:=by unfold isSign signB;rw[hb];rfl
 rw[e,List.all_cons,hs]
 rfl
theorem namedB_eq (s:ByteArray):namedB s=isNamed (raw s):=by
 unfold namedB isNamed;rw[length_raw];show(decide (0<s.size∧s.size≤12)&&match raw s with|[]=>false|c::r=>smallB c.toNat&&r.all fun c=>signB c.toNat)=_;have hl:=length_raw s;cases h:raw s with
 |nil=>simp
 |cons c t=>
  rw[h] at hl;have:0<s.size:=by rw[←hl];simp
  simp only[List.all_cons];rw[show(t.all fun c=>signB c.toNat)=t.all isSign from rfl]
  by_cases h12:s.size≤12
  ·rw[decide_eq_true ⟨this,h12⟩,decide_eq_true h12];cases hc:smallB c.toNat
   ·simp
   ·rw[show isSign c=true by unfold isSign signB;rw[hc];rfl];simp
  ·rw[decide_eq_false (fun h=>h12 h.2),decide_eq_false h12];rfl
set_option maxHeartbeats 1000000 in
theorem named (s:ByteArray) (w:World):Calls Tryz.prog 104 #[.string s] w fun e w'=>e=.returned (.bool (namedB s))∧w'=w:=by
 by_cases h0:0<s.size
 ·by_cases h1:s.size≤12
  ·have h0':((s.size:Int)==0)=false:=by rw[beq_eq_false_iff_ne];omega
   cases hb:smallB s[0].toNat
   ·have F:Hid (namedB s=false):=by show _=_;rw[namedB_in h0 h1,hb];rfl
    go_enter Tryz.func104,Tryz.ntmps104
    go_wp2_with (go_at_call 177;refine(begins _ _).mono ?_;rintro e w' ⟨rfl,rfl⟩;rw[hb])
    go_ret;exact⟨ret_bool F.out.symm,rfl⟩
   ·have F:Hid (namedB s=decide ((bs ((raw s).takeWhile isSign)).size=s.size)):=namedB_word h0 h1 hb;generalize hx:bs ((raw s).takeWhile isSign)=x at F;have HX:=hide hx;clear hx
    go_enter Tryz.func104,Tryz.ntmps104
    go_wp2_with (first
     |(go_at_call 177;refine(begins _ _).mono ?_;rintro e w' ⟨rfl,rfl⟩;rw[hb])
     |(go_at_call 178;refine(wordC _ _ (by omega)).mono ?_;rintro e w' ⟨rfl,rfl⟩;rw[HX.out]))
    go_ret;refine⟨ret_bool ?_,rfl⟩;rw[F.out,Bool.eq_iff_iff];simp;omega
  ·rw[namedB_long (Or.inr (by omega))];have h0':((s.size:Int)==0)=false:=by rw[beq_eq_false_iff_ne];omega
   go_enter Tryz.func104,Tryz.ntmps104
   go_wp2;go_ret;exact⟨rfl,rfl⟩
 ·rw[namedB_long (Or.inl (by omega))];have h0':((s.size:Int)==0)=true:=by rw[beq_iff_eq];omega
  go_enter Tryz.func104,Tryz.ntmps104
  go_wp2;go_ret;exact⟨rfl,rfl⟩
set_option maxHeartbeats 400000 in
theorem wrong1 (s:ByteArray) (w:World):Calls Tryz.prog 106 #[.string s] w fun e w'=>e=.returned (.bool (!namedB s))∧w'=w:=by
 generalize hr:namedB s=r;have R:Hid _:=hr;clear hr
 go_enter Tryz.func106,Tryz.ntmps106
 go_wp2_with (go_at_call 104;refine(named _ _).mono ?_;rintro e w' ⟨rfl,rfl⟩;rw[R.out])
 go_ret;exact⟨rfl,rfl⟩
def noName (l:List ByteArray) (k:Nat):Bool:=(l.drop k).any fun s=> !namedB s
theorem noName_step {l:List ByteArray} {k:Nat} (h:k<l.length):noName l k=(!namedB (l.getD k ByteArray.empty)||noName l (k+1)):=by
 unfold noName;rw[List.drop_eq_getElem_cons h,List.any_cons,List.getD_eq_getElem?_getD,List.getElem?_eq_getElem h];rfl
theorem noName_end {l:List ByteArray} {k:Nat} (h:l.length≤k):noName l k=false:=by
 unfold noName;rw[List.drop_eq_nil_of_le h];rfl
set_option maxHeartbeats 1000000 in
theorem indexFunc (v:Value) (l:List ByteArray) (w:World) (h:Strs w v l):
  Calls Tryz.prog 179 #[v,.func (.func 106) #[] #[]] w fun e w'=>∃n:Int,e=.returned (.int .i64 n)∧decide (0≤n)=noName l 0∧w'=w:=by
 obtain⟨h0,a,cap,rfl,hc⟩:=h;have HC:Hid _:=hc;clear hc
 go_enter Tryz.func179,Tryz.ntmps179
 go_wp2
 go_loop [8] (fun i=>∃k:Nat,k≤l.length∧i=.int .i64 k∧Hid (noName l 0=noName l k)) (fun i=>l.length- (intOf i).toNat)
 case atStart=>exact⟨0,by omega,rfl,(rfl:_=_)⟩
 case round=>
  obtain⟨k,hk,rfl,HE⟩:=hrel
  by_cases hlt:k<l.length
  ·obtain⟨b,off,rfl,_,hcell⟩:=HC.out (by intro e;rw[e] at hlt;simp at hlt);have h1:=hcell k hlt;have hs:=noName_step hlt;clear hcell;generalize l.getD k ByteArray.empty=s at*;cases hn:namedB s
   ·have F:Hid (noName l 0=true):=by show _=_;rw[HE.out,hs,hn];rfl
    clear hs
    go_wp2_with (go_at_call 106;refine(wrong1 _ _).mono ?_;rintro e w' ⟨rfl,rfl⟩;rw[hn])
    go_ret;exact⟨_,rfl,by rw[F.out];simp,rfl⟩
   ·have F:Hid (noName l 0=noName l (k+1)):=by show _=_;rw[HE.out,hs,hn];rfl
    clear hs
    go_wp2_with (go_at_call 106;refine(wrong1 _ _).mono ?_;rintro e w' ⟨rfl,rfl⟩;rw[hn])
    go_round
    case rel=>exact⟨k+1,by omega,by go_num,F⟩
    case measure=>simp[intOf];omega
  ·have F:Hid (noName l 0=false):=by show _=_;rw[HE.out,noName_end (by omega)]
   go_wp2;go_ret;exact⟨_,rfl,by rw[F.out];simp,rfl⟩
set_option maxHeartbeats 400000 in
theorem containsFunc (v:Value) (l:List ByteArray) (w:World) (h:Strs w v l):
  Calls Tryz.prog 105 #[v,.func (.func 106) #[] #[]] w fun e w'=>e=.returned (.bool (noName l 0))∧w'=w:=by
 have hI:=indexFunc v l w h;obtain⟨h0,a,cap,rfl,hc⟩:=h;have HI:=hide hI;clear hc hI
 go_enter Tryz.func105,Tryz.ntmps105
 go_wp2_with (go_at_call 179;refine HI.out.mono ?_;rintro e w' ⟨n,rfl,hn,rfl⟩;replace hn:=hide hn)
 go_ret;exact⟨ret_bool (unhide hn),rfl⟩
def wrongF (f:FactD):Int:=if !namedB f.1 then 7 else if 4<f.2.length then 5 else if noName f.2 0 then 7 else 0
set_option maxHeartbeats 1000000 in
theorem wrong (v:Value) (f:FactD) (w:World) (h:FactV w v f):
  Calls Tryz.prog 59 #[v] w fun e w'=>e=.returned (.int .i64 (wrongF f))∧Later w w':=by
 obtain⟨s,rfl,k⟩:=h;have HC:Hid (∀w',Later w w'→Calls Tryz.prog 105 #[s,.func (.func 106) #[] #[]] w' fun e w''=>e=.returned (.bool (noName f.2 0))∧w''=w'):=fun w' hw=>containsFunc s f.2 w' (k.later hw);have l0:=k.1;obtain⟨a,c,rfl⟩:=sliceStr k;clear k;obtain⟨n,x⟩:=f;unfold wrongF;dsimp only at*;cases hn:namedB n
 ·go_enter Tryz.func59,Tryz.ntmps59
  go_wp2_with (go_at_call 104;refine(named _ _).mono ?_;rintro e w' ⟨rfl,rfl⟩;rw[hn])
  go_ret;exact⟨rfl,(Later.refl _).alloc _⟩
 ·by_cases h4:4<x.length
  ·rw[if_pos h4]
   go_enter Tryz.func59,Tryz.ntmps59
   go_wp2_with (go_at_call 104;refine(named _ _).mono ?_;rintro e w' ⟨rfl,rfl⟩;rw[hn])
   go_ret;exact⟨rfl,(Later.refl _).alloc _⟩
  ·rw[if_neg h4];cases hb:noName x 0
   all_goals
    rw[hb] at HC
    go_enter Tryz.func59,Tryz.ntmps59
    go_wp2_with (first
     |(go_at_call 104;refine(named _ _).mono ?_;rintro e w' ⟨rfl,rfl⟩;rw[hn])
     |(go_at_call 105;refine(HC.out _ ((Later.refl _).alloc _)).mono ?_;rintro e w' ⟨rfl,rfl⟩))
    go_ret;exact⟨rfl,(Later.refl _).alloc _⟩
end Go.Proofs.YtafmbokfkbccaaaGreatDoor
namespace Go.Proofs.YtafmbokfkbccaaaGreatDoor
def skipM:Bool→Bs→Bs
 |_,[]=>[]
 |false,c::t=>if c=32∨c=10 then skipM false t else if c=37 then skipM true t else c::t
 |true,c::t=>if c=10 then skipM false t else skipM true t
abbrev skip (l:Bs):Bs:=skipM false l
inductive Res (α:Type) where
 |ok (a:α) (r:Bs)
 |bad (e:Int) (r:Bs)
def Res.next {α β:Type} (x:Res α) (f:α→Bs→Res β):Res β:=
 match x with
 | .ok a r=>f a r
 | .bad e r=>.bad e r
def took (g l:Bs):Bool×Bs:=if g.isPrefixOf (skip l) then(true,(skip l).drop g.length) else(false,skip l)
def word (fits:Bs→Bool) (l:Bs):Res Bs:=
 if(skip l).takeWhile isSign=[] then .bad 2 (skip l)
 else if fits ((skip l).takeWhile isSign) then .ok ((skip l).takeWhile isSign) ((skip l).drop ((skip l).takeWhile isSign).length)
 else .bad 7 (skip l)
def listGo {α:Type} (part:Bs→Res α):Nat→List α→Bs→Res (List α)
 |n,out,l=>if(took [44] l).1 then
   match n with
   |0=>.bad 5 (took [44] l).2
   |n+1=>(part (took [44] l).2).next fun a r=>listGo part n (out++[a]) r
  else .ok out (took [44] l).2
def listP {α:Type} (part:Bs→Res α) (most:Nat) (l:Bs):Res (List α):=(part l).next fun a r=>listGo part (most-1) [a] r
def mustTake {α:Type} (g:Bs) (a:α) (l:Bs):Res α:=if(took g l).1 then .ok a (took g l).2 else .bad 2 (took g l).2
abbrev TermD:=Bool×Bs
structure AtomD where
 no:Bool
 name:Bs
 terms:List TermD
deriving DecidableEq
structure RuleD where
 head:AtomD
 body:List AtomD
deriving DecidableEq
def fitsTerm (w:Bs):Bool:=isNamed w||isVar w
def term (l:Bs):Res TermD:=(word fitsTerm l).next fun w r=>.ok (isVar w,w) r
def atom (l:Bs):Res AtomD:=(word isNamed l).next fun w r=>
 if(took [40] r).1 then(listP term 4 (took [40] r).2).next fun ts r=>mustTake [41] ⟨false,w,ts⟩ r else .ok ⟨false,w,[]⟩ (took [40] r).2
def bodyAtom (l:Bs):Res AtomD:=(atom (took [33] l).2).next fun a r=>.ok {a with no:=(took [33] l).1} r
def body (l:Bs):Res (List AtomD):=listP bodyAtom 5 l
def rule (l:Bs):Res RuleD:=(atom l).next fun a r=>
 if(took [58,45] r).1 then(body (took [58,45] r).2).next fun b r=>mustTake [46] ⟨a,b⟩ r else mustTake [46] ⟨a,[]⟩ (took [58,45] r).2
def rulesGo:Nat→List RuleD→Bs→Res (List RuleD)
 |n,out,l=>if skip l=[] then .ok out [] else
  match n with
  |0=>.bad 5 (skip l)
  |n+1=>(rule (skip l)).next fun a r=>rulesGo n (out++[a]) r
def onlyBody (l:Bs):Res (List AtomD):=(body l).next fun b r=>if skip r=[] then .ok b [] else .bad 2 (skip r)
theorem Res.next_ok {α β:Type} {x:Res α} {f:α→Bs→Res β} {b:β} {r:Bs} (h:x.next f=.ok b r):∃a r',x=.ok a r'∧f a r'=.ok b r:=by
 cases x with
 |ok a r'=>exact⟨a,r',rfl,h⟩
 |bad e r'=>cases h
theorem skip_blank {c:UInt8} {t:Bs} (h:c=32∨c=10):skipM false (c::t)=skipM false t:=by simp only[skipM,if_pos h]
theorem skip_note {t:Bs}:skipM false (37::t)=skipM true t:=by simp[skipM]
theorem skip_other {c:UInt8} {t:Bs} (h:¬(c=32∨c=10)) (h2:¬c=37):skipM false (c::t)=c::t:=by simp only[skipM,if_neg h,if_neg h2]
theorem note_end {t:Bs}:skipM true (10::t)=skipM false t:=by simp[skipM]
theorem note_on {c:UInt8} {t:Bs} (h:¬c=10):skipM true (c::t)=skipM true t:=by simp only[skipM,if_neg h]
def Local {α:Type} (P:Bs→Res α):Prop:=∀l a r t,P l=.ok a r→r≠[]→P (l++10::t)=.ok a (r++10::t)
def Ends {α:Type} (P:Bs→Res α):Prop:=∀a r,P []=.ok a r→r=[]
theorem mustTake_ok {α:Type} {g l r:Bs} {a b:α} (h:mustTake g a l=.ok b r):(took g l).1=true∧b=a∧r=(took g l).2:=by
 unfold mustTake at h;split at h
 ·cases h;exact⟨by assumption,rfl,rfl⟩
 ·cases h
theorem rulesGo_end (n:Nat) (out:List RuleD) {l:Bs} (h:skip l=[]):rulesGo n out l=.ok out []:=by
 unfold rulesGo;exact if_pos h
end Go.Proofs.YtafmbokfkbccaaaGreatDoor
namespace Go.Proofs.YtafmbokfkbccaaaGreatDoor
def addNew (l:List Bs) (s:Bs):List Bs:=if l.contains s then l else l++[s]
def varsGo (l:List Bs) (ts:List TermD):List Bs:=ts.foldl (fun l t=>if t.1 then addNew l t.2 else l) l
def vars (a:AtomD):List Bs:=varsGo [] a.terms
def wrongTerm (t:TermD):Bool:=if t.1 then !isVar t.2 else !isNamed t.2
def wrongAtom (a:AtomD):Int:=if isNamed a.name=false then 7 else if 4<a.terms.length then 5 else if a.terms.any wrongTerm then 7 else 0
def givenBy (l:List AtomD) (s:Bs):Bool:=l.any fun a=> !a.no&&(vars a).contains s
def wrongAtoms:List AtomD→Int
 |[]=>0
 |a::l=>if wrongAtom a=0 then wrongAtoms l else wrongAtom a
def wrongBody (l:List AtomD):Int:=if 5<l.length then 5 else if wrongAtoms l=0 then(if l.all (fun a=>(vars a).all (givenBy l)) then 0 else 9) else wrongAtoms l
abbrev Nums:=Bs→Option Nat
def Nums.put (m:Nums) (s:Bs) (n:Nat):Nums:=fun t=>if t=s then some n else m t
def fitOne (m:Nums) (a:AtomD):Bool×Nums:=match m a.name with
 |none=>(true,m.put a.name a.terms.length)
 |some n=>(decide (n=a.terms.length),m)
def fitAll:Nums→List AtomD→Bool×Nums
 |m,[]=>(true,m)
 |m,a::l=>if(fitOne m a).1 then fitAll (fitOne m a).2 l else(false,(fitOne m a).2)
def wrongRule (m:Nums) (r:RuleD):Int×Nums:=
 if wrongAtom r.head=0 then
  if r.head.no then(2,m) else
  if wrongBody r.body=0 then
   if(vars r.head).all (givenBy r.body) then
    if(fitOne m r.head).1 then(if(fitAll (fitOne m r.head).2 r.body).1 then 0 else 8,(fitAll (fitOne m r.head).2 r.body).2) else(8,(fitOne m r.head).2)
   else(9,m)
  else(wrongBody r.body,m)
 else(wrongAtom r.head,m)
def wrongGo:Nums→Nat→List RuleD→Int×Nat
 |_,_,[]=>(0,0)
 |m,i,r::l=>if(wrongRule m r).1=0 then wrongGo (wrongRule m r).2 (i+1) l else((wrongRule m r).1,i)
def wrongP (p:List RuleD):Int×Nat:=if 16<p.length then(5,0) else wrongGo (fun _=>none) 0 p
def behind (m:Nums) (a:AtomD):Nat:=match m a.name with
 |none=>0
 |some n=>if a.no then n+1 else n
def numOf (m:Nums) (s:Bs):Nat:=(m s).getD 0
def liftAtom (h:Bs) (x:Nums×Bool) (a:AtomD):Nums×Bool:=if numOf x.1 h<behind x.1 a then(x.1.put h (behind x.1 a),true) else x
def liftRule (x:Nums×Bool) (r:RuleD):Nums×Bool:=r.body.foldl (liftAtom r.head.name) x
def liftAll (x:Nums×Bool) (p:List RuleD):Nums×Bool:=p.foldl liftRule x
def startGo (m:Nums) (p:List RuleD):Nums:=p.foldl (fun m r=>m.put r.head.name 0) m
def start (p:List RuleD):Nums:=startGo (fun _=>none) p
def strataGo (p:List RuleD):Nat→Nums→Option Nums
 |0,_=>none
 |n+1,m=>if(liftAll (m,false) p).2 then strataGo p n (liftAll (m,false) p).1 else some (liftAll (m,false) p).1
def each (m:Nums) (p:List RuleD):List Nat:=p.map fun r=>numOf m r.head.name
def strataP (p:List RuleD):List Nat×Int×Nat:=
 if(wrongP p).1=0 then match strataGo p (p.length+1) (start p) with
  |some m=>(each m p,0,0)
  |none=>([],10,0)
 else([],wrongP p)
def isHead (p:List RuleD) (s:Bs):Prop:=∃r∈p,r.head.name=s
def step (a:AtomD):Nat:=if a.no then 1 else 0
def Sol (p:List RuleD) (σ:Bs→Nat):Prop:=∀r∈p,∀a∈r.body,isHead p a.name→σ a.name+step a≤σ r.head.name
def Doms (p:List RuleD) (m:Nums):Prop:=∀s,(m s).isSome↔isHead p s
def Least (p:List RuleD) (m:Nums):Prop:=∀σ,Sol p σ→∀s,numOf m s≤σ s
theorem behind_eq {p:List RuleD} {m:Nums} (hd:Doms p m) (a:AtomD) (h:isHead p a.name):behind m a=numOf m a.name+step a:=by
 unfold behind numOf step;have:=(hd a.name).2 h;obtain⟨n,hn⟩:=Option.isSome_iff_exists.1 this;rw[hn];cases a.no <;> simp
theorem behind_none {p:List RuleD} {m:Nums} (hd:Doms p m) (a:AtomD) (h:¬isHead p a.name):behind m a=0:=by
 unfold behind;have:m a.name=none:=by
  cases e:m a.name with
  |none=>rfl
  |some n=>exact absurd ((hd a.name).1 (by rw[e];rfl)) h
 rw[this]
theorem numOf_put (m:Nums) (s t:Bs) (n:Nat):numOf (m.put s n) t=if t=s then n else numOf m t:=by
 unfold numOf Nums.put
 by_cases h:t=s <;> simp[h]
theorem Doms.put {p:List RuleD} {m:Nums} (hd:Doms p m) {s:Bs} (hs:isHead p s) (n:Nat):Doms p (m.put s n):=by
 intro t;unfold Nums.put
 by_cases h:t=s
 ·subst h;simp[hs]
 ·rw[if_neg h];exact hd t
theorem liftAtom_kept {p:List RuleD} {r:RuleD} (hr:r∈p) {x:Nums×Bool} (hd:Doms p x.1) (hl:Least p x.1) {a:AtomD} (ha:a∈r.body):
  Doms p (liftAtom r.head.name x a).1∧Least p (liftAtom r.head.name x a).1∧∀s,numOf x.1 s≤numOf (liftAtom r.head.name x a).1 s:=by
 unfold liftAtom;split
 ·rename_i hlt;refine⟨hd.put ⟨r,hr,rfl⟩ _,fun σ hσ s=> ?_,fun s=> ?_⟩
  ·show numOf (x.1.put _ _) s≤_;rw[numOf_put];split
   ·rename_i h;subst h
    by_cases hh:isHead p a.name
    ·rw[behind_eq hd a hh];have h1:=hσ r hr a ha hh;have h2:=hl σ hσ a.name;omega
    ·rw[behind_none hd a hh];omega
   ·exact hl σ hσ s
  ·show _≤numOf (x.1.put _ _) s;rw[numOf_put];split
   ·rename_i h;subst h;omega
   ·exact Nat.le_refl _
 ·exact⟨hd,hl,fun _=>Nat.le_refl _⟩
theorem liftRule_kept {p:List RuleD} {r:RuleD} (hr:r∈p) (l:List AtomD):∀{x:Nums×Bool},Doms p x.1→Least p x.1→(∀a∈l,a∈r.body)→
  Doms p (l.foldl (liftAtom r.head.name) x).1∧Least p (l.foldl (liftAtom r.head.name) x).1∧∀s,numOf x.1 s≤numOf (l.foldl (liftAtom r.head.name) x).1 s:=by
 induction l with
 |nil=>intro x hd hl _;exact⟨hd,hl,fun _=>Nat.le_refl _⟩
 |cons a l ih=>
  intro x hd hl ha;obtain⟨d1,l1,u1⟩:=liftAtom_kept hr hd hl (ha a (by simp));obtain⟨d2,l2,u2⟩:=ih d1 l1 (fun b hb=>ha b (by simp[hb]));exact⟨d2,l2,fun s=>Nat.le_trans (u1 s) (u2 s)⟩
theorem liftAll_kept {p:List RuleD} (l:List RuleD):∀{x:Nums×Bool},Doms p x.1→Least p x.1→(∀r∈l,r∈p)→
  Doms p (liftAll x l).1∧Least p (liftAll x l).1∧∀s,numOf x.1 s≤numOf (liftAll x l).1 s:=by
 induction l with
 |nil=>intro x hd hl _;exact⟨hd,hl,fun _=>Nat.le_refl _⟩
 |cons r l ih=>
  intro x hd hl hr;obtain⟨d1,l1,u1⟩:=liftRule_kept (hr r (by simp)) r.body hd hl (fun a h=>h);obtain⟨d2,l2,u2⟩:=ih d1 l1 (fun b hb=>hr b (by simp[hb]));exact⟨d2,l2,fun s=>Nat.le_trans (u1 s) (u2 s)⟩
theorem liftAtom_true (h:Bs) (x:Nums×Bool) (a:AtomD) (hx:x.2=true):(liftAtom h x a).2=true:=by unfold liftAtom;split <;> simp[hx]
theorem foldAtom_true (h:Bs) (l:List AtomD):∀x:Nums×Bool,x.2=true→(l.foldl (liftAtom h) x).2=true:=by
 induction l with
 |nil=>intro x hx;exact hx
 |cons a l ih=>intro x hx;exact ih _ (liftAtom_true h x a hx)
theorem liftAll_true (l:List RuleD):∀x:Nums×Bool,x.2=true→(liftAll x l).2=true:=by
 induction l with
 |nil=>intro x hx;exact hx
 |cons r l ih=>intro x hx;exact ih _ (foldAtom_true _ _ x hx)
theorem foldAtom_rest (h:Bs) (l:List AtomD):∀m:Nums,(l.foldl (liftAtom h) (m,false)).2=false→l.foldl (liftAtom h) (m,false)=(m,false)∧∀a∈l,behind m a≤numOf m h:=by
 induction l with
 |nil=>intro m _;exact⟨rfl,by simp⟩
 |cons a l ih=>
  intro m hm;rw[List.foldl_cons] at hm⊢
  by_cases hlt:numOf m h<behind m a
  ·have:(liftAtom h (m,false) a).2=true:=by unfold liftAtom;rw[if_pos hlt]
   rw[foldAtom_true h l _ this] at hm;cases hm
  ·have e:liftAtom h (m,false) a=(m,false):=by unfold liftAtom;rw[if_neg hlt]
   rw[e] at hm⊢;obtain⟨h1,h2⟩:=ih m hm;refine⟨h1,fun b hb=> ?_⟩;rcases List.mem_cons.1 hb with rfl|hb
   ·omega
   ·exact h2 b hb
theorem liftAll_rest (l:List RuleD):∀m:Nums,(liftAll (m,false) l).2=false→liftAll (m,false) l=(m,false)∧∀r∈l,∀a∈r.body,behind m a≤numOf m r.head.name:=by
 induction l with
 |nil=>intro m _;exact⟨rfl,by simp⟩
 |cons r l ih=>
  intro m hm;unfold liftAll at hm⊢;rw[List.foldl_cons] at hm⊢;have h0:(liftRule (m,false) r).2=false:=by
   cases hc:(liftRule (m,false) r).2 with
   |false=>rfl
   |true=>have:=liftAll_true l _ hc;unfold liftAll at this;rw[this] at hm;cases hm
  obtain⟨e,h1⟩:=foldAtom_rest _ _ m h0;have e':liftRule (m,false) r=(m,false):=e;rw[e'] at hm⊢;obtain⟨h2,h3⟩:=ih m hm;refine⟨h2,fun q hq=> ?_⟩;rcases List.mem_cons.1 hq with rfl|hq
  ·exact h1
  ·exact h3 q hq
theorem startGo_dom (l:List RuleD):∀(m:Nums) (s:Bs),(startGo m l s).isSome↔((m s).isSome∨isHead l s):=by
 induction l with
 |nil=>intro m s;simp[startGo,isHead]
 |cons r l ih=>
  intro m s;show(startGo (m.put r.head.name 0) l s).isSome↔_;rw[ih];unfold Nums.put isHead
  by_cases h:s=r.head.name
  ·subst h;simp
  ·have h':¬r.head.name=s:=fun e=>h e.symm;simp[h,h']
theorem startGo_zero (l:List RuleD):∀(m:Nums),(∀s,numOf m s=0)→∀s,numOf (startGo m l) s=0:=by
 induction l with
 |nil=>intro m h;exact h
 |cons r l ih=>
  intro m h;exact ih _ fun s=>by rw[numOf_put];split <;> simp[h]
theorem start_dom (p:List RuleD):Doms p (start p):=fun s=>by unfold start;rw[startGo_dom];simp
theorem start_zero (p:List RuleD) (s:Bs):numOf (start p) s=0:=startGo_zero p _ (fun _=>rfl) s
theorem start_least (p:List RuleD):Least p (start p):=fun σ _ s=>by rw[start_zero];exact Nat.zero_le _
theorem strataGo_some {p:List RuleD}:∀(n:Nat) (m m':Nums),Doms p m→Least p m→strataGo p n m=some m'→Doms p m'∧Least p m'∧∀r∈p,∀a∈r.body,behind m' a≤numOf m' r.head.name:=by
 intro n
 induction n with
 |zero=>intro m m' _ _ h;cases h
 |succ n ih=>
  intro m m' hd hl h;unfold strataGo at h;split at h
  ·obtain⟨d1,l1,_⟩:=liftAll_kept p hd hl (x:=(m,false)) (fun _ h=>h);exact ih _ _ d1 l1 h
  ·rename_i hf;obtain⟨e,h1⟩:=liftAll_rest p m (by simpa using hf);rw[e] at h;cases h;exact⟨hd,hl,h1⟩
theorem sol_of {p:List RuleD} {m:Nums} (hd:Doms p m) (h:∀r∈p,∀a∈r.body,behind m a≤numOf m r.head.name):Sol p (numOf m):=fun r hr a ha hh=>by
 rw[←behind_eq hd a hh];exact h r hr a ha
theorem strataP_ok {p:List RuleD} {l:List Nat} {k:Nat} (h:strataP p=(l,0,k)):(wrongP p).1=0∧∃m,l=each m p∧Doms p m∧Least p m∧Sol p (numOf m):=by
 unfold strataP at h;split at h
 ·rename_i h0;split at h
  ·rename_i m hm;obtain⟨d,le,s⟩:=strataGo_some _ _ _ (start_dom p) (start_least p) hm;simp at h;exact⟨h0,m,h.1.symm,d,le,sol_of d s⟩
  ·simp at h
 ·rename_i h0;rw[Prod.mk.injEq] at h;exact absurd (congrArg Prod.fst h.2) h0
theorem no_gap {p:List RuleD} {m:Nums} (hl:Least p m) (hs:Sol p (numOf m)) (k:Nat) (hk:∀r∈p,numOf m r.head.name≠k):∀r∈p,numOf m r.head.name<k:=by
 intro r hr;have hσ:Sol p (fun s=>if numOf m s>k then numOf m s-1 else numOf m s):=by
  intro q hq a ha hh;have h1:=hs q hq a ha hh;have h2:=hk q hq;obtain⟨q',hq',e'⟩:=hh;have h3:=hk q' hq';rw[e'] at h3;have h4:step a≤1:=by unfold step;split <;> omega
  show(if numOf m a.name>k then _ else _)+_≤(if numOf m q.head.name>k then _ else _);split <;> split <;> omega
 have h1:numOf m r.head.name≤(if numOf m r.head.name>k then numOf m r.head.name-1 else numOf m r.head.name):=hl _ hσ r.head.name;have h2:=hk r hr;split at h1 <;> omega
theorem sum_le {p:List RuleD} {f g:RuleD→Nat} (h:∀r∈p,f r≤g r):(p.map f).sum≤(p.map g).sum:=by
 induction p with
 |nil=>simp
 |cons a p ih=>
  have:=ih fun r hr=>h r (by simp[hr]);have:=h a (by simp);simp;omega
theorem sum_lt {p:List RuleD} {f g:RuleD→Nat} (h:∀r∈p,f r≤g r) (hx:∃r∈p,f r<g r):(p.map f).sum<(p.map g).sum:=by
 induction p with
 |nil=>obtain⟨r,hr,_⟩:=hx;simp at hr
 |cons a p ih=>
  have h1:=sum_le fun r hr=>h r (List.mem_cons_of_mem a hr);have h2:=h a (by simp);obtain⟨r,hr,hlt⟩:=hx;rcases List.mem_cons.1 hr with rfl|hr
  ·simp;omega
  ·have:=ih (fun r hr=>h r (by simp[hr])) ⟨r,hr,hlt⟩;simp;omega
def settled (p:List RuleD) (τ:Bs→Nat) (m:Nums):Nat:=(p.map fun r=>if numOf m r.head.name=τ r.head.name then 1 else 0).sum
end Go.Proofs.YtafmbokfkbccaaaGreatDoor
namespace Go.Proofs.YtafmbokfkbccaaaGreatDoor
abbrev BindD:=ByteArray×ByteArray
def getB:List BindD→ByteArray→Option ByteArray
 |[],_=>none
 |b::l,v=>if b.1=v then some b.2 else getB l v
def keysB (l:List BindD):List ByteArray:=l.map (·.1)
theorem getB_append (l m:List BindD) (v:ByteArray):getB (l++m) v=match getB l v with|some s=>some s|none=>getB m v:=by
 induction l with
 |nil=>rfl
 |cons b l ih=>
  simp only[List.cons_append,getB];split
  ·rfl
  ·exact ih
theorem getB_none {l:List BindD} {v:ByteArray}:getB l v=none↔v∉keysB l:=by
 induction l with
 |nil=>simp[getB,keysB]
 |cons b l ih=>
  simp only[getB,keysB,List.map_cons,List.mem_cons,not_or];split
  ·rename_i h;simp[h]
  ·rename_i h;rw[ih];exact⟨fun h'=>⟨fun e=>h e.symm,h'⟩,fun h'=>h'.2⟩
theorem getB_mem {l:List BindD} {v s:ByteArray} (h:getB l v=some s):(v,s)∈l:=by
 induction l with
 |nil=>cases h
 |cons b l ih=>
  simp only[getB] at h;split at h
  ·rename_i e;cases h;subst e;exact List.mem_cons_self
  ·exact List.mem_cons_of_mem _ (ih h)
theorem getB_of_mem {l:List BindD} (hn:(keysB l).Nodup) {v s:ByteArray} (h:(v,s)∈l):getB l v=some s:=by
 induction l with
 |nil=>cases h
 |cons b l ih=>
  have hn':b.1∉keysB l∧(keysB l).Nodup:=List.nodup_cons.1 hn;rcases List.mem_cons.1 h with e|h
  ·subst e;simp[getB]
  ·have:b.1≠v:=fun e=>hn'.1 (by rw[e];exact List.mem_map.2 ⟨_,h,rfl⟩);simp only[getB,if_neg this];exact ih hn'.2 h
theorem getB_isSome {l:List BindD} {v:ByteArray} (h:v∈keysB l):∃s,getB l v=some s:=by
 cases e:getB l v with
 |none=>exact absurd h (getB_none.1 e)
 |some s=>exact⟨s,rfl⟩
theorem getB_perm {l m:List BindD} (h:l.Perm m) (hn:(keysB l).Nodup) (v:ByteArray):getB l v=getB m v:=by
 have hm:(keysB m).Nodup:=(h.map _).nodup_iff.1 hn;cases e:getB l v with
 |none=>exact(getB_none.2 fun hv=>getB_none.1 e ((h.map _).mem_iff.2 hv)).symm
 |some s=>exact(getB_of_mem hm (h.mem_iff.1 (getB_mem e))).symm
def worthB (l:List BindD) (t:TermD):Option ByteArray:=if t.1 then getB l (bs t.2) else some (bs t.2)
def fillArgs (l:List BindD):List TermD→Option (List ByteArray)
 |[]=>some []
 |t::ts=>match worthB l t with
  |none=>none
  |some s=>match fillArgs l ts with
   |none=>none
   |some r=>some (s::r)
abbrev FactB:=ByteArray×List ByteArray
def fillB (a:AtomD) (l:List BindD):Option FactB:=match fillArgs l a.terms with
 |none=>none
 |some r=>some (bs a.name,r)
def meetGo (l:List BindD):List TermD→List ByteArray→Option (List BindD)
 |[],_=>some l
 |_::_,[]=>none
 |t::ts,x::xs=>match worthB l t with
  |none=>meetGo (l++[(bs t.2,x)]) ts xs
  |some s=>if s=x then meetGo l ts xs else none
def meetB (a:AtomD) (f:FactB) (l:List BindD):Option (List BindD):=
 if bs a.name=f.1∧a.terms.length=f.2.length then meetGo l a.terms f.2 else none
def meetAllB (a:AtomD) (fs:List FactB) (ls:List (List BindD)):List (List BindD):=ls.flatMap fun l=>fs.filterMap fun f=>meetB a f l
def metGo (pick:Nat→List FactB):Nat→List AtomD→List (List BindD)→Option (List (List BindD))
 |_,[],ls=>some ls
 |n,a::ats,ls=>if a.no then metGo pick (n+1) ats ls
  else if 20000<(meetAllB a (pick n) ls).length then none
  else metGo pick (n+1) ats (meetAllB a (pick n) ls)
def inB (l:List FactB) (f:FactB):Bool:=l.any fun x=>decide (x=f)
theorem inB_iff {l:List FactB} {f:FactB}:inB l f=true↔f∈l:=by
 unfold inB;rw[List.any_eq_true];exact⟨fun⟨x,hx,e⟩=>by rw[decide_eq_true_eq] at e;rw[←e];exact hx,fun h=>⟨f,h,by simp⟩⟩
def barredB (pick:Nat→List FactB):Nat→List AtomD→List BindD→Bool
 |_,[],_=>false
 |n,a::ats,l=>(a.no&&(match fillB a l with|some f=>inB (pick n) f|none=>false))||barredB pick (n+1) ats l
theorem worthB_append {l m:List BindD} {t:TermD} {s:ByteArray} (h:worthB l t=some s):worthB (l++m) t=some s:=by
 unfold worthB at*;split
 ·rename_i ht;rw[if_pos ht] at h;rw[getB_append,h]
 ·rename_i ht;rw[if_neg ht] at h;exact h
theorem fillArgs_append {l m:List BindD}:∀{ts:List TermD} {r:List ByteArray},fillArgs l ts=some r→fillArgs (l++m) ts=some r
 |[],r,h=>h
 |t::ts,r,h=>by
  simp only[fillArgs] at h⊢;cases e:worthB l t with
  |none=>rw[e] at h;cases h
  |some s=>
   rw[e] at h;rw[worthB_append e];dsimp only at h⊢;cases e2:fillArgs l ts with
   |none=>rw[e2] at h;cases h
   |some q=>
    rw[e2] at h;rw[fillArgs_append e2];exact h
theorem fillB_append {l m:List BindD} {a:AtomD} {f:FactB} (h:fillB a l=some f):fillB a (l++m)=some f:=by
 unfold fillB at*;cases e:fillArgs l a.terms with
 |none=>rw[e] at h;cases h
 |some r=>rw[e] at h;rw[fillArgs_append e];exact h
theorem fillArgs_congr {l m:List BindD}:∀{ts:List TermD},(∀t∈ts,t.1=true→getB l (bs t.2)=getB m (bs t.2))→fillArgs l ts=fillArgs m ts
 |[],_=>rfl
 |t::ts,h=>by
  have e1:worthB l t=worthB m t:=by
   unfold worthB;split
   ·rename_i ht;exact h t List.mem_cons_self ht
   ·rfl
  simp only[fillArgs];rw[e1,fillArgs_congr (ts:=ts) fun t ht=>h t (List.mem_cons_of_mem _ ht)]
theorem fillB_congr {l m:List BindD} {a:AtomD} (h:∀t∈a.terms,t.1=true→getB l (bs t.2)=getB m (bs t.2)):fillB a l=fillB a m:=by
 unfold fillB;rw[fillArgs_congr h]
theorem fillB_perm {l m:List BindD} (h:l.Perm m) (hn:(keysB l).Nodup) (a:AtomD):fillB a l=fillB a m:=fillB_congr fun _ _ _=>getB_perm h hn _
theorem fillArgs_some {l:List BindD}:∀{ts:List TermD},(∀t∈ts,t.1=true→bs t.2∈keysB l)→∃r,fillArgs l ts=some r
 |[],_=>⟨[],rfl⟩
 |t::ts,h=>by
  obtain⟨r,hr⟩:=fillArgs_some (ts:=ts) fun t ht=>h t (List.mem_cons_of_mem _ ht);have:∃s,worthB l t=some s:=by
   unfold worthB;split
   ·rename_i ht;exact getB_isSome (h t List.mem_cons_self ht)
   ·exact⟨_,rfl⟩
  obtain⟨s,hs⟩:=this;exact⟨s::r,by simp only[fillArgs,hs,hr]⟩
theorem fillB_some {l:List BindD} {a:AtomD} (h:∀t∈a.terms,t.1=true→bs t.2∈keysB l):∃f,fillB a l=some f:=by
 obtain⟨r,hr⟩:=fillArgs_some h;exact⟨(bs a.name,r),by unfold fillB;rw[hr]⟩
theorem fillArgs_len {l:List BindD}:∀{ts:List TermD} {r:List ByteArray},fillArgs l ts=some r→r.length=ts.length
 |[],r,h=>by cases h;rfl
 |t::ts,r,h=>by
  simp only[fillArgs] at h;cases e:worthB l t with
  |none=>rw[e] at h;cases h
  |some s=>
   rw[e] at h;dsimp only at h;cases e2:fillArgs l ts with
   |none=>rw[e2] at h;cases h
   |some q=>rw[e2] at h;cases h;simp[fillArgs_len e2]
theorem addNew_pre (K:List Bs) (s:Bs):∃r,addNew K s=K++r:=by
 unfold addNew;split
 ·exact⟨[],by simp⟩
 ·exact⟨[s],rfl⟩
theorem varsGo_cons (K:List Bs) (t:TermD) (ts:List TermD):varsGo K (t::ts)=varsGo (if t.1 then addNew K t.2 else K) ts:=rfl
theorem varsGo_pre:∀(ts:List TermD) (K:List Bs),∃r,varsGo K ts=K++r
 |[],K=>⟨[],by simp[varsGo]⟩
 |t::ts,K=>by
  rw[varsGo_cons];split
  ·obtain⟨r1,h1⟩:=addNew_pre K t.2;obtain⟨r2,h2⟩:=varsGo_pre ts (addNew K t.2);exact⟨r1++r2,by rw[h2,h1,List.append_assoc]⟩
  ·exact varsGo_pre ts K
theorem addNew_nodup {K:List Bs} (h:K.Nodup) (s:Bs):(addNew K s).Nodup:=by
 unfold addNew;split
 ·exact h
 ·rename_i hc;rw[List.nodup_append];refine⟨h,by simp,fun a ha b hb=> ?_⟩;simp at hb;subst hb;intro e;subst e;simp at hc;exact hc ha
theorem varsGo_nodup:∀(ts:List TermD) {K:List Bs},K.Nodup→(varsGo K ts).Nodup
 |[],_,h=>h
 |t::ts,K,h=>by
  rw[varsGo_cons];split
  ·exact varsGo_nodup ts (addNew_nodup h _)
  ·exact varsGo_nodup ts h
theorem mem_addNew {K:List Bs} {s v:Bs}:v∈addNew K s↔v∈K∨v=s:=by
 unfold addNew;split
 ·rename_i h;simp at h;exact⟨Or.inl,fun h'=>h'.elim id fun e=>by rw[e];exact h⟩
 ·simp
theorem mem_varsGo:∀(ts:List TermD) {K:List Bs} {v:Bs},v∈varsGo K ts↔v∈K∨∃t∈ts,t.1=true∧t.2=v
 |[],K,v=>by simp[varsGo]
 |t::ts,K,v=>by
  rw[varsGo_cons,mem_varsGo ts];cases ht:t.1
  ·simp[ht]
  ·simp only[if_true,mem_addNew,List.mem_cons,exists_eq_or_imp,ht,true_and]
   constructor
   ·rintro((h|h)|h)
    ·exact Or.inl h
    ·exact Or.inr (Or.inl h.symm)
    ·exact Or.inr (Or.inr h)
   ·rintro(h|h|h)
    ·exact Or.inl (Or.inl h)
    ·exact Or.inl (Or.inr h.symm)
    ·exact Or.inr h
theorem mem_map_bs {K:List Bs} {v:Bs}:bs v∈K.map bs↔v∈K:=by
 constructor
 ·intro h;obtain⟨x,hx,e⟩:=List.mem_map.1 h;rw[←bs_inj e];exact hx
 ·exact fun h=>List.mem_map.2 ⟨_,h,rfl⟩
theorem nodup_map_bs {K:List Bs} (h:K.Nodup):(K.map bs).Nodup:=by
 rw[List.Nodup,List.pairwise_map];exact h.imp fun hne e=>hne (bs_inj e)
theorem meetGo_ok:∀(ts:List TermD) (xs:List ByteArray) (l m:List BindD) (K:List Bs),ts.length=xs.length→keysB l=K.map bs→meetGo l ts xs=some m→
  (∃r,m=l++r)∧keysB m=(varsGo K ts).map bs∧fillArgs m ts=some xs
 |[],[],l,m,K,_,hk,h=>by
  cases h;exact⟨⟨[],by simp⟩,hk,rfl⟩
 |[],_::_,_,_,_,hl,_,_=>by simp at hl
 |_::_,[],_,_,_,hl,_,_=>by simp at hl
 |t::ts,x::xs,l,m,K,hl,hk,h=>by
  have hl':ts.length=xs.length:=by simpa using hl
  simp only[meetGo] at h;cases e:worthB l t with
  |none=>
   rw[e] at h;dsimp only at h;have ht:t.1=true:=by
    unfold worthB at e;split at e
    ·assumption
    ·cases e
   have hg:getB l (bs t.2)=none:=by unfold worthB at e;rwa [if_pos ht] at e
   have hnk:t.2∉K:=fun hm=>getB_none.1 hg (by rw[hk];exact mem_map_bs.2 hm);have ha:addNew K t.2=K++[t.2]:=by unfold addNew;rw[if_neg (by simpa using hnk)]
   obtain⟨⟨r,hr⟩,h2,h3⟩:=meetGo_ok ts xs (l++[(bs t.2,x)]) m (K++[t.2]) hl' (by simp[keysB] at hk⊢;exact hk) h;refine⟨⟨(bs t.2,x)::r,by rw[hr];simp⟩,by rw[varsGo_cons,if_pos ht,ha];exact h2,?_⟩;simp only[fillArgs];have hw:worthB m t=some x:=by
    rw[hr];refine worthB_append ?_;unfold worthB;rw[if_pos ht,getB_append,hg];simp[getB]
   rw[hw,h3]
  |some s=>
   rw[e] at h;dsimp only at h;split at h
   ·rename_i hs;subst hs;have hK:(if t.1=true then addNew K t.2 else K)=K:=by
     split
     ·rename_i ht;unfold worthB at e;rw[if_pos ht] at e;unfold addNew;rw[if_pos];have:bs t.2∈keysB l:=Classical.byContradiction fun hk=>by rw[getB_none.2 hk] at e;cases e
      rw[hk] at this;simpa using mem_map_bs.1 this
     ·rfl
    obtain⟨⟨r,hr⟩,h2,h3⟩:=meetGo_ok ts xs l m K hl' hk h;refine⟨⟨r,hr⟩,by rw[varsGo_cons,hK];exact h2,?_⟩;simp only[fillArgs];rw[show worthB m t=some s by rw[hr];exact worthB_append e,h3]
   ·cases h
theorem meetGo_of:∀(ts:List TermD) (xs:List ByteArray) (l m r:List BindD) (K:List Bs),keysB l=K.map bs→m=l++r→keysB m=(varsGo K ts).map bs→fillArgs m ts=some xs→meetGo l ts xs=some m
 |[],xs,l,m,r,K,hk,hm,hv,_=>by
  have e:r=[]:=by
   have h1:(keysB m).length=(keysB l).length:=by rw[hv,hk];simp[varsGo]
   rw[hm] at h1;simp[keysB] at h1;exact h1
  rw[hm,e];simp[meetGo]
 |t::ts,xs,l,m,r,K,hk,hm,hv,hf=>by
  simp only[fillArgs] at hf;cases e:worthB m t with
  |none=>rw[e] at hf;cases hf
  |some s=>
   rw[e] at hf;dsimp only at hf;cases e2:fillArgs m ts with
   |none=>rw[e2] at hf;cases hf
   |some q=>
    rw[e2] at hf;cases hf;rw[varsGo_cons] at hv;simp only[meetGo];cases e3:worthB l t with
    |some s'=>
     have:=worthB_append (m:=r) e3;rw[←hm,e] at this;cases this;dsimp only;rw[if_pos rfl];have hK:(if t.1=true then addNew K t.2 else K)=K:=by
      split
      ·rename_i ht;unfold worthB at e3;rw[if_pos ht] at e3;unfold addNew;rw[if_pos];have:bs t.2∈keysB l:=Classical.byContradiction fun hk=>by rw[getB_none.2 hk] at e3;cases e3
       rw[hk] at this;simpa using mem_map_bs.1 this
      ·rfl
     rw[hK] at hv;exact meetGo_of ts q l m r K hk hm hv e2
    |none=>
     dsimp only;have ht:t.1=true:=by
      unfold worthB at e3;split at e3
      ·assumption
      ·cases e3
     have hg:getB l (bs t.2)=none:=by unfold worthB at e3;rwa [if_pos ht] at e3
     have hnk:t.2∉K:=fun hm=>getB_none.1 hg (by rw[hk];exact mem_map_bs.2 hm);have ha:addNew K t.2=K++[t.2]:=by unfold addNew;rw[if_neg (by simpa using hnk)]
     rw[if_pos ht,ha] at hv;obtain⟨q',hq'⟩:=varsGo_pre ts (K++[t.2]);have hkr:keysB r=bs t.2::q'.map bs:=by
      have h1:=hv;rw[hq',hm] at h1;simp only[keysB,List.map_append] at h1 hk⊢;rw[hk,List.append_assoc] at h1;simpa using List.append_cancel_left h1
     cases r with
     |nil=>simp[keysB] at hkr
     |cons b r'=>
      have hb:b.1=bs t.2:=by simp[keysB] at hkr;exact hkr.1
      have hbs:b.2=s:=by
       unfold worthB at e;rw[if_pos ht,hm,getB_append,hg] at e;simp only[getB,hb,if_true] at e;exact Option.some.inj e
      have hbe:b=(bs t.2,s):=by rw[←hb,←hbs]
      subst hbe;exact meetGo_of ts q (l++[(bs t.2,s)]) m r' (K++[t.2]) (by simp[keysB] at hk⊢;exact hk) (by rw[hm];simp) hv e2
theorem meetB_ok {a:AtomD} {f:FactB} {l m:List BindD} {K:List Bs} (hk:keysB l=K.map bs) (h:meetB a f l=some m):(∃r,m=l++r)∧keysB m=(varsGo K a.terms).map bs∧fillB a m=some f:=by
 unfold meetB at h;split at h
 ·rename_i hc;obtain⟨h1,h2,h3⟩:=meetGo_ok a.terms f.2 l m K hc.2 hk h;exact⟨h1,h2,by unfold fillB;rw[h3,hc.1]⟩
 ·cases h
theorem meetB_of {a:AtomD} {f:FactB} {l m r:List BindD} {K:List Bs} (hk:keysB l=K.map bs) (hm:m=l++r) (hv:keysB m=(varsGo K a.terms).map bs) (hf:fillB a m=some f):meetB a f l=some m:=by
 unfold fillB at hf;cases e:fillArgs m a.terms with
 |none=>rw[e] at hf;cases hf
 |some x=>
  rw[e] at hf;cases hf;unfold meetB;rw[if_pos ⟨rfl,(fillArgs_len e).symm⟩];exact meetGo_of a.terms x l m r K hk hm hv e
end Go.Proofs.YtafmbokfkbccaaaGreatDoor
