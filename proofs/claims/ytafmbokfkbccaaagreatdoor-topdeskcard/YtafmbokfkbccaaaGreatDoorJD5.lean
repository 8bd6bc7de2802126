import Derived.Lib.ItoaNum
import Derived.Test.YtafmbokfkbccaaaGreatDoorJD4
import Derived.Test.YtafmbokfkbccaaaGreatDoorJD3
import Derived.Test.YtafmbokfkbccaaaGreatDoorJD2
import Derived.Shelf.SlSortCmp.QuietGrown
import Derived.Deep.QuietTactic
import Derived.BigQuiet
import Derived.RegionTactic
import Derived.BigRegion
import Derived.Deep.RegionLaw
namespace Go.Proofs.YtafmbokfkbccaaaGreatDoor
open Go.RowKit Go.Sort Go.Maps
theorem digit_val {a:Nat} (h:a<10):(UInt8.ofNat (48+a)).toNat=48+a:=by
 rw[UInt8.toNat_ofNat'];exact Nat.mod_eq_of_lt (by omega)
theorem decDigits_ne (u:Nat):Lib.decDigits u≠[]:=by
 rw[Lib.decDigits];split <;> simp
theorem decDigits_inj:∀(u v:Nat),Lib.decDigits u=Lib.decDigits v→u=v:=by
 intro u
 induction u using Nat.strongRecOn with
 |ind u ih=>
  intro v h;rw[Lib.decDigits,Lib.decDigits.eq_1 v] at h;split at h <;> split at h
  ·rename_i h1 h2;have:=List.cons.inj h;have:=congrArg UInt8.toNat this.1;rw[digit_val h1,digit_val h2] at this;omega
  ·rename_i h1 h2;have:=congrArg List.length h;have h3:=List.length_pos_iff.2 (decDigits_ne (v/10));rw[List.length_append,List.length_singleton,List.length_singleton] at this;omega
  ·rename_i h1 h2;have:=congrArg List.length h;have h3:=List.length_pos_iff.2 (decDigits_ne (u/10));rw[List.length_append,List.length_singleton,List.length_singleton] at this;omega
  ·rename_i h1 h2;obtain⟨h3,h4⟩:=List.append_inj' h rfl;have h5:=ih (u/10) (by omega) (v/10) h3;have h6:=congrArg UInt8.toNat (List.cons.inj h4).1;rw[digit_val (Nat.mod_lt _ (by omega)),digit_val (Nat.mod_lt _ (by omega))] at h6;omega
theorem decDigits_no32:∀(u:Nat),(32:UInt8)∉Lib.decDigits u:=by
 intro u
 induction u using Nat.strongRecOn with
 |ind u ih=>
  have key:∀a,a<10→(32:UInt8)≠UInt8.ofNat (48+a):=fun a ha e=>by
   have:=congrArg UInt8.toNat e;rw[digit_val ha] at this;have h32:(32:UInt8).toNat=32:=rfl;omega
  rw[Lib.decDigits];split
  ·rename_i h;simp only[List.mem_singleton];exact key u h
  ·rename_i h;rw[List.mem_append];rintro(h1|h1)
   ·exact ih (u/10) (by omega) h1
   ·simp only[List.mem_singleton] at h1;exact key _ (Nat.mod_lt _ (by omega)) h1
theorem cut32:∀{a b x y:Bs},32∉a→32∉b→a++32::x=b++32::y→a=b∧x=y
 |[],[],x,y,_,_,h=>⟨rfl,(List.cons.inj h).2⟩
 |[],c::b,x,y,_,hb,h=>by
  have:=(List.cons.inj h).1;exact absurd (by rw[this];simp) hb
 |c::a,[],x,y,ha,_,h=>by
  have:=(List.cons.inj h).1;exact absurd (by rw[←this];simp) ha
 |c::a,d::b,x,y,ha,hb,h=>by
  obtain⟨h1,h2⟩:=List.cons.inj h;obtain⟨h3,h4⟩:=cut32 (a:=a) (b:=b) (fun h=>ha (by simp[h])) (fun h=>hb (by simp[h])) h2;exact⟨by rw[h1,h3],h4⟩
def partK (s:Bs):Bs:=Lib.decDigits s.length++32::s
theorem partK_cut {s t x y:Bs} (h:partK s++x=partK t++y):s=t∧x=y:=by
 unfold partK at h;rw[List.append_assoc,List.append_assoc,List.cons_append,List.cons_append] at h;obtain⟨h1,h2⟩:=cut32 (decDigits_no32 _) (decDigits_no32 _) h;exact List.append_inj h2 (decDigits_inj _ _ h1)
def partsK:List ByteArray→Bs
 |[]=>[]
 |s::l=>partK (raw s)++partsK l
theorem partsK_inj:∀{l m:List ByteArray},partsK l=partsK m→l=m
 |[],[],_=>rfl
 |[],s::m,h=>by simp[partsK,partK] at h
 |s::l,[],h=>by simp[partsK,partK] at h
 |s::l,t::m,h=>by
  obtain⟨h1,h2⟩:=partK_cut h;rw[←bs_raw s,h1,bs_raw,partsK_inj h2]
theorem partsK_append:∀(l m:List ByteArray),partsK (l++m)=partsK l++partsK m
 |[],m=>rfl
 |s::l,m=>by simp[partsK,partsK_append l m]
def keyF (f:FactB):Bs:=partsK (f.1::f.2)
theorem keyF_inj {f g:FactB} (h:keyF f=keyF g):f=g:=by
 have:=partsK_inj h;obtain⟨h1,h2⟩:=List.cons.inj this;exact Prod.ext h1 h2
abbrev Two:=ByteArray×Option Addr×Nat×Nat
def encT (x:Two):Value:=.agg #[.string x.1,.slice x.2.1 x.2.2.1 x.2.2.2]
def twoOf (v:Value):Option Two:=match v with
 | .agg a=>match a.toList with
  |[.string s,.slice p n c]=>some (s,p,n,c)
  |_=>none
 |_=>none
theorem twoOf_enc (x:Two):twoOf (encT x)=some x:=rfl
theorem twoOf_inv {v:Value} {x:Two} (h:twoOf v=some x):v=encT x:=by
 unfold twoOf at h;split at h
 ·rename_i a;obtain⟨l,rfl⟩:∃l:List Value,a=l.toArray:=⟨a.toList,by simp⟩;simp only at h;split at h
  ·cases h
   rfl
  ·cases h
 ·cases h
def twoElem (v:Value):Option (DataW Two×List MemPlace):=(twoOf v).map fun x=>(.held x,[])
theorem twoElem_mk (x:Two):twoElem (encT x)=some (.held x,[]):=rfl
theorem twoElem_inv {v:Value} {z:DataW Two×List MemPlace} (h:twoElem v=some z):∃x,v=encT x∧z=(.held x,[]):=by
 unfold twoElem at h;cases e:twoOf v with
 |none=>rw[e] at h;cases h
 |some x=>rw[e] at h;cases h;exact⟨x,twoOf_inv e,rfl⟩
theorem encT_inj {x y:Two} (h:encT x=encT y):x=y:=by
 have:=twoOf_enc x;rw[h,twoOf_enc] at this;exact(Option.some.inj this).symm
theorem factV_two {w:World} {v:Value} {f:FactD} (h:FactV w v f):∃x,v=encT x:=by
 obtain⟨s,rfl,hs⟩:=h;obtain⟨a,c,rfl⟩:=sliceStr hs;exact⟨(f.1,a,_,c),rfl⟩
def KnownM (P:Program) (K:TypeId) (w:World) (b n:Nat) (L:List FactB):Prop:=
 ∃D:DataW Two,w.ownsMap P K twoElem b n D∧(∀s,Maps.has D (.string s)=true↔∃f∈L,keyF f=s)∧(∀f∈L,∃x,D.atKey (.string (keyF f)) .nil=.held x∧FactV w (encT x) f)∧Maps.size D=(setF L).length
theorem KnownM.made (P:Program) (K:TypeId) (w:World):KnownM P K (w.alloc (.map #[] 0)) w.heap.size 0 []:=
 ⟨.map [],World.ownsMap_made _ _ _ _,fun s=>by simp[Maps.has],fun f hf=>(by cases hf),by simp[Maps.size,setF,dropTwice,sortBy]⟩
section
variable {P:Program} {K:TypeId} {w w':World} {b n:Nat} {L:List FactB}
theorem KnownM.lt (h:KnownM P K w b n L):b<w.heap.size:=by obtain⟨D,h,_⟩:=h;exact h.lt
theorem KnownM.later (h:KnownM P K w b n L) (k:Later w w'):KnownM P K w' b n L:=by
 obtain⟨D,h,h1,h2,h3⟩:=h;exact⟨D,owns_block h (k.block h.lt),h1,fun f hf=>by obtain⟨x,e,hx⟩:=h2 f hf;exact⟨x,e,hx.later k⟩,h3⟩
theorem KnownM.mono (h:KnownM P K w b n L) {n':Nat} (hn:n≤n'):KnownM P K w b n' L:=by obtain⟨D,h,hf⟩:=h;exact⟨D,h.mono hn,hf⟩
theorem KnownM.few (h:KnownM P K w b n L):(setF L).length≤n:=by obtain⟨D,h,_,_,h3⟩:=h;rw[←h3];exact h.size_le
theorem setF_more {L:List FactB} {f:FactB}:(setF (L++[f])).length=if inB L f then(setF L).length else(setF L).length+1:=by
 split
 ·rename_i h;have h:=inB_iff.1 h;rw[setF_congr (l:=L++[f]) (m:=L) fun g=>by
   rw[List.mem_append,List.mem_singleton];exact⟨fun h'=>h'.elim id (fun e=>by rw[e];exact h),Or.inl⟩]
 ·rename_i h;have h:f∉L:=fun h'=>h (inB_iff.2 h');have h1:(f::setF L).Nodup:=List.nodup_cons.2 ⟨fun h'=>h (mem_setF.1 h'),up_nodup (setF_up L)⟩;have e:∀g,g∈setF (L++[f])↔g∈f::setF L:=fun g=>by
   rw[mem_setF,List.mem_append,List.mem_singleton,List.mem_cons,mem_setF];exact⟨fun h=>h.symm,fun h=>h.symm⟩
  have a:=sub_len (up_nodup (setF_up (L++[f]))) fun g hg=>(e g).1 hg;have b:=sub_len h1 fun g hg=>(e g).2 hg;simp only[List.length_cons] at a b;omega
theorem KnownM.store {E T:TypeId} (h:KnownM P K w b n L) (hk:P.underlying K=some .string) (ht:P.underlying T=some (.map K E)) (hn:n<maxLen) {f:FactB} {v:Value} (hv:FactV w v f) (hf:(keyF f).length≤maxLen):
  ∃w',(Instr.mapUpdate T (.map (some b)) (.string (bs (keyF f))) v).run P w=.ok () w'∧w.grownBy w' (some b)∧((∀g∈L++[f],∀u,FactV w u g→FactV w' u g)→KnownM P K w' b (n+1) (L++[f])):=by
 obtain⟨D,hown,h1,h2,h3⟩:=h;obtain⟨x,rfl⟩:=factV_two hv;obtain⟨w',hrun,r1,r2⟩:=hown.update (string_keyed hk) ht hn (key_mk hk hf) (twoElem_mk x);have hhas:Maps.has D (.string (keyF f))=inB L f:=by
  cases e:inB L f with
  |true=>exact(h1 _).2 ⟨f,inB_iff.1 e,rfl⟩
  |false=>
   cases e2:Maps.has D (.string (keyF f)) with
   |false=>rfl
   |true=>
    obtain⟨g,hg,hgf⟩:=(h1 _).1 e2;rw[keyF_inj hgf] at hg;rw[inB_iff.2 hg] at e;cases e
 refine⟨w',hrun,r2,fun hkeep=>⟨_,r1,fun s=> ?_,fun g hg=> ?_,?_⟩⟩
 ·by_cases e:s=keyF f
  ·subst e;rw[has_put_same hown.isMap (keyS _)];simp only[true_iff];exact⟨f,by simp,rfl⟩
  ·rw[has_put_other (str_ne e),h1]
   constructor
   ·rintro⟨g,hg,hs⟩;exact⟨g,by simp[hg],hs⟩
   ·rintro⟨g,hg,hs⟩;rcases List.mem_append.1 hg with hg|hg
    ·exact⟨g,hg,hs⟩
    ·simp only[List.mem_singleton] at hg;subst hg;exact absurd hs.symm e
 ·by_cases e:g=f
  ·subst e;exact⟨x,by rw[atKey_put_same hown.isMap (keyS _)],hkeep g hg _ hv⟩
  ·have hgL:g∈L:=(List.mem_append.1 hg).elim id (fun h=>absurd (List.mem_singleton.1 h) e);obtain⟨y,hy,hfy⟩:=h2 g hgL;exact⟨y,by rw[atKey_put_other (str_ne fun h=>e (keyF_inj h))];exact hy,hkeep g hg _ hfy⟩
 ·rw[size_put (hown.tidy (string_keyed hk)),hhas,setF_more,h3]
theorem KnownM.len {E T:TypeId} (h:KnownM P K w b n L) (ht:P.underlying T=some (.map K E)) (ty:TypeId):(Builtin.len_ #[T] ty #[.map (some b)]).run P w=.ok (.int .i64 ((setF L).length:Nat)) w:=by
 obtain⟨D,hown,_,_,h3⟩:=h;rw[hown.len ht,h3]
end
end Go.Proofs.YtafmbokfkbccaaaGreatDoor
namespace Go.Proofs.YtafmbokfkbccaaaGreatDoor
open Go.RowKit Go.Sort
def lessF (f g:FactD):Bool:=decide (cmpF f g<0)
def sameF (f g:FactD):Bool:=decide (cmpF f g=0)
theorem sameF_iff {f g:FactD}:sameF f g=true↔f=g:=by
 unfold sameF;rw[decide_eq_true_eq];exact⟨three_cmpF.zero f g,fun e=>by rw[e];exact three_cmpF.refl g⟩
def inFrom (l:List FactD) (f:FactD) (k:Nat):Bool:=(l.drop k).any fun x=>sameF x f
theorem Facts.at {w:World} {b off:Nat} {n cap:Nat} {l:List FactD} (h:Facts w (.slice (some ⟨b,off,none⟩) n cap) l) {k:Nat} (hk:k<l.length):
  b<w.heap.size∧∃a len c,w.cell? ⟨b,off+k*2,none⟩=some (.string (l.getD k noFact).1)∧w.cell? ⟨b,off+k*2+1,none⟩=some (.slice a len c)∧FactV w (.agg #[.string (l.getD k noFact).1,.slice a len c]) (l.getD k noFact):=by
 obtain⟨_,a,cap',e,h1⟩:=h;obtain⟨b',off',e',hb,hc⟩:=h1 (by intro e;rw[e] at hk;simp at hk);rw[e'] at e;simp only[Value.slice.injEq,Option.some.injEq,Addr.mk.injEq] at e;obtain⟨⟨rfl,rfl,_⟩,_,_⟩:=e;obtain⟨c1,s,c2,c3⟩:=hc k hk;obtain⟨a2,cp,rfl⟩:=sliceStr c3;exact⟨hb,a2,_,cp,c1,c2,_,rfl,c3⟩
theorem Facts.addr {w:World} {v:Value} {l:List FactD} (h:Facts w v l):∃a cap,v=.slice a l.length cap∧l.length≤3518437208883∧(l=[]∨∃b off,a=some ⟨b,off,none⟩):=by
 obtain⟨h0,a,cap,rfl,h1⟩:=h;refine⟨a,cap,rfl,h0,?_⟩
 by_cases e:l=[]
 ·exact Or.inl e
 ·obtain⟨b,off,rfl,_⟩:=h1 e;exact Or.inr ⟨b,off,rfl⟩
end Go.Proofs.YtafmbokfkbccaaaGreatDoor
namespace Go.Proofs.YtafmbokfkbccaaaGreatDoor
open Go.RowKit Go.Sort
theorem infoStr:∃i,Tryz.prog.info? 9=some i∧i.zero=some (.string ByteArray.empty)∧i.size=1∧i.bytes=16:=⟨Tryz.t9,by kernel_rfl,by kernel_rfl,by kernel_rfl,by kernel_rfl⟩
theorem infoFact:∃i,Tryz.prog.info? 27=some i∧i.zero=some (.agg #[.string ByteArray.empty,.slice none 0 0])∧i.size=2∧i.bytes=40:=⟨Tryz.t27,by kernel_rfl,by kernel_rfl,by kernel_rfl,by kernel_rfl⟩
theorem append_strs (w:World) (b off cap:Nat) (l:List ByteArray) (hl:l.length≤8796093022208) (h0:l≠[]) (hc:∀i,i<l.length→w.cell? ⟨b,off+i,none⟩=some (.string (l.getD i ByteArray.empty))):
  ∃cp arr,(Builtin.append_ #[25,25] 25 #[.slice none 0 0,.slice (some ⟨b,off,none⟩) l.length cap]).run Tryz.prog w=.ok (.slice (some ⟨w.heap.size,0,none⟩) l.length cp) (w.drew.alloc (.cells arr 9))∧
   ∀i,i<l.length→arr[i]?=some (.string (l.getD i ByteArray.empty)):=by
 obtain⟨i,i1,i2,i3,i4⟩:=infoStr;have hn:0<l.length:=List.length_pos_iff.2 h0;have hcells:∀j u,(l.map Value.string)[j]?=some u→w.cell? ((⟨b,off,none⟩:Addr).add j)=some u:=by
  intro j u hu;rw[List.getElem?_map] at hu;cases hj:l[j]? with
  |none=>rw[hj] at hu;cases hu
  |some s=>
   rw[hj] at hu;have hlt:j<l.length:=(List.getElem?_eq_some_iff.1 hj).1;have:=hc j hlt;rw[List.getD_eq_getElem?_getD,hj] at this;rw[Addr.add_lit];rw[this];simpa using hu
 have hr:=run_append_nil (P:=Tryz.prog) w 25 25 9 i (.string ByteArray.empty) Tryz.underlying25 i1 i2 ⟨b,off,none⟩ l.length cap (l.map Value.string) (by rw[i3];simp) hcells (by omega) (by omega) (by rw[i4];omega);refine⟨_,_,hr,fun k hk=> ?_⟩;rw[Array.getElem?_append_left (by simpa using hk)];simp[hk]
theorem step_append_run {P:Program} {ops:Array Oper} {o:Oper} {a:Act} {w:World} {K:Act→World→Prop} {Q:Exit→Act→World→Prop} {E:Prop}
  (hg:o.guard=none) (s x:Operand) (t:TypeId) (hop:o.op=Op.call {callee:=Callee.builtin Builtin.append,args:=#[s,x],argTypes:=#[t,t]})
  (v1 v2 v':Value) (w':World) (hs:a.eval s=v1) (hx:a.eval x=v2) (hrun:(Builtin.append_ #[t,t] o.type #[v1,v2]).run P w=.ok v' w') (hK:K (a.put o.dst v') w'):
  if Region.wanted o (yielded ops a.tmps)=true then Oper.wp P o a w K Q else E:=by
 have hw:Region.wanted o (yielded ops a.tmps)=true:=by simp[Region.wanted,hg]
 rw[if_pos hw];unfold Oper.wp;simp[execOp,hop,resolve,invoke,builtin,hs,hx,hrun,Result.andThen];exact hK
theorem strs_new (w:World) (arr:Array Value) (l:List ByteArray) (cp:Nat) (t:TypeId) (hl:l.length≤8796093022208) (h:∀i,i<l.length→arr[i]?=some (.string (l.getD i ByteArray.empty))):
  Strs (w.alloc (.cells arr t)) (.slice (some ⟨w.heap.size,0,none⟩) l.length cp) l:=
 ⟨hl,_,cp,rfl,fun _=>⟨w.heap.size,0,rfl,by simp,fun i hi=>by
  rw[Nat.zero_add,cell_of_row _ w.heap.size i arr t (0,0) (heap_alloc_new w _)];exact h i hi⟩⟩
set_option maxHeartbeats 1000000 in
theorem copied_some (n:ByteArray) (l:List ByteArray) (b off cap:Nat) (w:World) (hne:l≠[]) (h0:l.length≤8796093022208) (hb:b<w.heap.size) (hcell:∀i,i<l.length→w.cell? ⟨b,off+i,none⟩=some (.string (l.getD i ByteArray.empty))):
  Calls Tryz.prog 169 #[.agg #[.string n,.slice (some ⟨b,off,none⟩) l.length cap]] w fun e w'=>∃s,e=.returned (.agg #[.string n,s])∧Strs w' s l∧Later w w'∧∀k,s.ownBlock=some k→w.heap.size≤k∧k<w'.heap.size:=by
 have hL:Later w ((w.alloc (.cells #[.string n,.slice (some ⟨b,off,none⟩) l.length cap] 27)).alloc (.cells #[.string {data:=#[]},.slice none 0 0] 27)).drew:=(by repeat (first|exact Later.refl _|assumption|refine Later.drewN ?_ _|refine Later.drew ?_|refine Later.alloc ?_ _|refine Later.grow ?_ _));obtain⟨cp,arr,hr,harr⟩:=append_strs ((w.alloc (.cells #[.string n,.slice (some ⟨b,off,none⟩) l.length cap] 27)).alloc (.cells #[.string {data:=#[]},.slice none 0 0] 27)).drew b off cap l h0 hne (fun i hi=>by rw[hL.cell (p:=⟨b,off+i,none⟩) hb];exact hcell i hi);have HA:=hide harr;clear harr hcell hL
 go_enter Tryz.func169,Tryz.ntmps169
 go_wp2
 go_region_law (refine step_append_run rfl (.const (.slice none 0 0)) (.tmp 6) 25 rfl _ _ _ _ (by simp[Act.eval]) (by simp[Act.eval]) hr ?_)
 all_goals
  clear hr;go_wp2;refine bodyPost_ret (v:=.agg #[.string n,.slice (some ⟨w.heap.size+1+1,0,none⟩) l.length cp]) (by simp[results,Tryz.results169,go_sem]) rfl ⟨_,rfl,?_,(by repeat (first|exact Later.refl _|assumption|refine Later.drewN ?_ _|refine Later.drew ?_|refine Later.alloc ?_ _|refine Later.grow ?_ _)),?_⟩
  ·have hs:=strs_new ((w.alloc (.cells #[.string n,.slice (some ⟨b,off,none⟩) l.length cap] 27)).alloc (.cells #[.string n,.slice (some ⟨w.heap.size+1+1,0,none⟩) l.length cp] 27)) arr l cp 9 h0 HA.out;have e:((w.alloc (.cells #[.string n,.slice (some ⟨b,off,none⟩) l.length cap] 27)).alloc (.cells #[.string n,.slice (some ⟨w.heap.size+1+1,0,none⟩) l.length cp] 27)).heap.size=w.heap.size+1+1:=by simp
   rw[e] at hs;exact hs.later (by repeat (first|exact Later.refl _|assumption|refine Later.drewN ?_ _|refine Later.drew ?_|refine Later.alloc ?_ _|refine Later.grow ?_ _))
  ·intro k hk;simp[Value.ownBlock] at hk;simp;omega
theorem append_none (w:World) (a:Option Addr) (cap:Nat):
  (Builtin.append_ #[25,25] 25 #[.slice none 0 0,.slice a 0 cap]).run Tryz.prog w=.ok (.slice none 0 0) w:=by
 obtain⟨i,i1,i2,i3,i4⟩:=infoStr;cases a with
 |none=>simp[Builtin.append_,run_underlying Tryz.underlying25,sizeOf,typeInfo,i1,Builtin.lenOf,Builtin.firstCells]
 |some a=>simp[Builtin.append_,run_underlying Tryz.underlying25,sizeOf,typeInfo,i1,Builtin.lenOf,Builtin.firstCells,loadCells,loadCellsFrom]
set_option maxHeartbeats 1000000 in
theorem copied_none (n:ByteArray) (a:Option Addr) (cap:Nat) (w:World):
  Calls Tryz.prog 169 #[.agg #[.string n,.slice a 0 cap]] w fun e w'=>∃s,e=.returned (.agg #[.string n,s])∧Strs w' s []∧Later w w'∧∀k,s.ownBlock=some k→w.heap.size≤k∧k<w'.heap.size:=by
 go_enter Tryz.func169,Tryz.ntmps169
 go_wp2
 go_region_law (refine step_append_run rfl (.const (.slice none 0 0)) (.tmp 6) 25 rfl (.slice none 0 0) (.slice a 0 cap) (.slice none 0 0) _ (by simp[Act.eval]) (by simp[Act.eval]) (append_none _ _ _) ?_)
 all_goals
  go_wp2;refine bodyPost_ret (v:=.agg #[.string n,.slice none 0 0]) (by simp[results,Tryz.results169,go_sem]) rfl ⟨_,rfl,⟨by simp,none,0,rfl,fun h=>absurd rfl h⟩,(by repeat (first|exact Later.refl _|assumption|refine Later.drewN ?_ _|refine Later.drew ?_|refine Later.alloc ?_ _|refine Later.grow ?_ _)),?_⟩;intro k hk;simp[Value.ownBlock] at hk
theorem copied (v:Value) (f:FactD) (w:World) (h:FactV w v f):
  Calls Tryz.prog 169 #[v] w fun e w'=>∃s,e=.returned (.agg #[.string f.1,s])∧Strs w' s f.2∧Later w w'∧∀k,s.ownBlock=some k→w.heap.size≤k∧k<w'.heap.size:=by
 obtain⟨s,rfl,h0,a,cap,rfl,hc⟩:=h;obtain⟨n,l⟩:=f;dsimp only at*;cases l with
 |nil=>exact copied_none n a cap w
 |cons x l=>
  obtain⟨b,off,rfl,hb,hcell⟩:=hc (by simp);exact copied_some n (x::l) b off cap w (by simp) h0 hb hcell
end Go.Proofs.YtafmbokfkbccaaaGreatDoor
namespace Go.Proofs.YtafmbokfkbccaaaGreatDoor
open Go.RowKit Go.Sort
theorem append_own {P:Program} (w:World) (base:Nat) (t ty e:TypeId) (i:TypeInfo) (z:Value) (size bytes:Nat) (ht:P.underlying t=some (.slice e)) (hi:P.info? e=some i) (hz:i.zero=some z)
  (hsize:i.size=size) (hby:i.bytes=bytes) (hzs:z.cells.size=size) (hsz:0<size)
  (v:Value) (n:Nat) (xs:List Value) (hown:w.ownsRow base e size v n xs)
  (a:Addr) (m c:Nat) (news:List Value) (hl:news.length=m*size) (hnews:∀j u,news[j]?=some u→w.cell? (a.add j)=some u) (h1:∀u∈news,u.oneCell'=true)
  (h63:n+m≤maxLen) (hbytes:(n+m)*bytes≤140737488355328) (hbase:base≤w.heap.size):
  ∃v' w',(Builtin.append_ #[t,t] ty #[v,.slice (some a) m c]).run P w=.ok v' w'∧w'.ownsRow base e size v' (n+m) (xs++news)∧w.grownBy w' v.ownBlock∧w.drawn≤w'.drawn∧
   ∀k,v'.ownBlock=some k→v.ownBlock=some k∨w.heap.size≤k:=by
 obtain⟨v',w',hrun,r1,r2,_⟩:=run_append_own (P:=P) w base t ty e i z size bytes ht hi hz hsize hby hzs hsz v n xs hown a m c news hl hnews h1 h63 hbytes hbase;refine⟨v',w',hrun,r1,r2,?_⟩;subst hsize;subst hby;have h63':n+m≤9223372036854775807:=by simp only[maxLen] at h63;omega
 rcases hown.2 with⟨rfl,rfl⟩|⟨g,cap,cur,rfl,hbg,hg,hnc,hcm,hcs,htake⟩
 ·by_cases hm:m=0
  ·subst hm;have hn:news=[]:=List.eq_nil_of_length_eq_zero (by simpa using hl);subst hn;simp[Builtin.append_,run_underlying ht,sizeOf,typeInfo,hi,Builtin.lenOf,Builtin.firstCells,loadCells,loadCellsFrom] at hrun;obtain⟨rfl,rfl⟩:=hrun;exact⟨Nat.le_refl _,fun k hk=>Or.inl hk⟩
  ·rw[run_append_nil (P:=P) w t ty e i z ht hi hz a m c news hl hnews (by omega) (by omega) (by have hb:=hbytes;simp only[Nat.zero_add] at hb;omega)] at hrun;simp only[Result.ok.injEq] at hrun;obtain⟨rfl,rfl⟩:=hrun;exact⟨Nat.le_succ _,fun k hk=>Or.inr (by simp[Value.ownBlock] at hk;omega)⟩
 ·by_cases hroom:n+m≤cap
  ·have hfit:n*i.size+news.length≤cur.size:=by rw[hl,hcs,←Nat.add_mul];exact Nat.mul_le_mul_right _ hroom
   rw[run_append_room (P:=P) w t ty e i ht hi g n cap cur hg a m c news hl hnews h1 hroom hfit] at hrun;simp only[Result.ok.injEq] at hrun;obtain⟨rfl,rfl⟩:=hrun;exact⟨Nat.le_refl _,fun k hk=>Or.inl (by simpa[Value.ownBlock] using hk)⟩
  ·rw[run_append_grow (P:=P) w t ty e i z ht hi hz ⟨g,0,none⟩ n cap xs hown.1 (hown.cells (g:=g) rfl) a m c news hl hnews (by omega) (by omega) (growslice_fits (by omega) hbytes)] at hrun;simp only[Result.ok.injEq] at hrun;obtain⟨rfl,rfl⟩:=hrun;exact⟨Nat.le_succ _,fun k hk=>Or.inr (by simp[Value.ownBlock] at hk;omega)⟩
theorem wpList_append_run {P:Program} {w:World} {ops:Array Oper} {rest:List Oper} {o:Oper} {a:Act} {Q:Exit→Act→World→Prop} (hgd:o.guard=none) (s x:Operand) (t:TypeId)
  (ho:o.op=.call {callee:=.builtin .append,args:=#[s,x],argTypes:=#[t,t]}) (v1 v2 v':Value) (w':World) (hs:a.eval s=v1) (hx:a.eval x=v2)
  (hrun:(Builtin.append_ #[t,t] o.type #[v1,v2]).run P w=.ok v' w') (h:wpList P ops Q rest (a.put o.dst v') w'):wpList P ops Q (o::rest) a w:=
 wpList_plain hgd fun _ hK=>by
  unfold Oper.wp execOp;simp only[ho,resolve,invoke,builtin,Sem.run_bind,Sem.run_pure,Result.andThen_ok,List.map_toArray,List.map_cons,List.map_nil,hs,hx,hrun];exact hK _ _ h
structure Only (lo hi:Nat) (w w':World):Prop where
 os:w'.os=w.os
 tape:w'.tape=w.tape
 output:w'.output=w.output
 drawn:w.drawn≤w'.drawn
 size:w.heap.size≤w'.heap.size
 block:∀k,k<w.heap.size→k<lo∨hi≤k→w'.heap[k]?=w.heap[k]?
theorem Only.refl (lo hi:Nat) (w:World):Only lo hi w w:=⟨rfl,rfl,rfl,Nat.le_refl _,Nat.le_refl _,fun _ _ _=>rfl⟩
theorem Only.trans {lo hi:Nat} {a b c:World} (h:Only lo hi a b) (k:Only lo hi b c):Only lo hi a c:=
 ⟨k.os.trans h.os,k.tape.trans h.tape,k.output.trans h.output,Nat.le_trans h.drawn k.drawn,Nat.le_trans h.size k.size,fun i hi' ho=>(k.block i (Nat.lt_of_lt_of_le hi' h.size) ho).trans (h.block i hi' ho)⟩
theorem Later.only {lo hi:Nat} {a b:World} (h:Later a b):Only lo hi a b:=
 ⟨h.below.os,h.below.tape,h.below.output,h.drawn,h.size,fun _ hk _=>h.block hk⟩
theorem Only.later {lo hi:Nat} {w0 a b:World} (h:Only lo hi a b) (h0:Later w0 a) (hl:w0.heap.size≤lo):Later w0 b:=
 Later.of_below ⟨h.os.trans h0.below.os,h.tape.trans h0.below.tape,h.output.trans h0.below.output,Nat.le_trans h0.size h.size,fun k hk=>(h.block k (Nat.lt_of_lt_of_le hk h0.size) (Or.inl (by omega))).trans (h0.block hk)⟩ (Nat.le_trans h0.drawn h.drawn)
theorem Only.cell {lo hi:Nat} {a b:World} (h:Only lo hi a b) {p:Addr} (hp:p.block<a.heap.size) (ho:p.block<lo∨hi≤p.block):b.cell? p=a.cell? p:=World.cell?_of_block (w:=a) (h.block _ hp ho)
theorem Only.grown {lo hi lo' hi':Nat} {a b c:World} {row:Option Nat} (h:Only lo hi a b) (hg:b.grownBy c row) (hd:b.drawn≤c.drawn) (hr:∀k,row=some k→a.heap.size≤k) (_:lo'=lo) (_:hi'=hi):Only lo' hi' a c:=by
 subst lo' hi';exact⟨hg.os.trans h.os,hg.tape.trans h.tape,hg.output.trans h.output,Nat.le_trans h.drawn hd,Nat.le_trans h.size hg.size,
  fun k hk ho=>(hg.block k (Nat.lt_of_lt_of_le hk h.size) (fun e=>by have:=hr k e.symm;omega)).trans (h.block k hk ho)⟩
def OwnF (w:World) (base:Nat) (v:Value) (l:List FactD):Prop:=
 ∃xs,w.ownsRow base 27 2 v l.length xs∧∀i,i<l.length→xs[i*2]?=some (.string (l.getD i noFact).1)∧∃s,xs[i*2+1]?=some s∧Strs w s (l.getD i noFact).2∧∀k,s.ownBlock=some k→base≤k∧k<w.heap.size∧v.ownBlock≠some k
theorem OwnF.nil (w:World) (base:Nat):OwnF w base (.slice none 0 0) []:=⟨[],World.ownsRow_nil w base 27 2,fun i hi=>by simp at hi⟩
theorem Strs.kept {w w':World} {s:Value} {l:List ByteArray} (h:Strs w s l) (hs:w.heap.size≤w'.heap.size) (hk:∀k,s.ownBlock=some k→w'.heap[k]?=w.heap[k]?):Strs w' s l:=by
 obtain⟨h0,a,cap,rfl,h1⟩:=h;refine⟨h0,a,cap,rfl,fun hl=> ?_⟩;obtain⟨b,off,rfl,hb,hc⟩:=h1 hl;exact⟨b,off,rfl,Nat.lt_of_lt_of_le hb hs,fun i hi=>by rw[World.cell?_of_block (w:=w) (hk b rfl)];exact hc i hi⟩
theorem Strs.block_lt {w:World} {s:Value} {l:List ByteArray} (h:Strs w s l) (hl:l≠[]):∀k,s.ownBlock=some k→k<w.heap.size:=by
 obtain⟨h0,a,cap,rfl,h1⟩:=h;obtain⟨b,off,rfl,hb,_⟩:=h1 hl;intro k hk;simp[Value.ownBlock] at hk;omega
theorem Strs.nil {w w':World} {s:Value} (h:Strs w s []):Strs w' s []:=by
 obtain⟨h0,a,cap,rfl,_⟩:=h;exact⟨h0,a,cap,rfl,fun e=>absurd rfl e⟩
theorem Strs.kept' {w w':World} {s:Value} {l:List ByteArray} (h:Strs w s l) (hs:w.heap.size≤w'.heap.size) (hk:∀k,k<w.heap.size→s.ownBlock=some k→w'.heap[k]?=w.heap[k]?):Strs w' s l:=by
 by_cases hl:l=[]
 ·subst hl;exact h.nil
 ·exact h.kept hs fun k e=>hk k (h.block_lt hl k e) e
theorem OwnF.only {lo hi base:Nat} {w w':World} {v:Value} {l:List FactD} (h:OwnF w base v l) (k:Only lo hi w w') (hb:hi≤base):OwnF w' base v l:=by
 obtain⟨xs,ho,hx⟩:=h;refine⟨xs,⟨ho.1,?_⟩,fun i hi'=> ?_⟩
 ·rcases ho.2 with e|⟨g,cap,cur,rfl,hbg,hg,r⟩
  ·exact Or.inl e
  ·exact Or.inr ⟨g,cap,cur,rfl,hbg,by rw[k.block g (Array.getElem?_eq_some_iff.1 hg).1 (Or.inr (by omega))];exact hg,r⟩
 ·obtain⟨c1,s,c2,c3,c4⟩:=hx i hi';exact⟨c1,s,c2,c3.kept' k.size fun j hj e=>k.block j hj (Or.inr (by have:=c4 j e;omega)),fun j e=>⟨(c4 j e).1,Nat.lt_of_lt_of_le (c4 j e).2.1 k.size,(c4 j e).2.2⟩⟩
theorem OwnF.later {base:Nat} {w w':World} {v:Value} {l:List FactD} (h:OwnF w base v l) (k:Later w w'):OwnF w' base v l:=h.only (lo:=0) (hi:=0) k.only (Nat.zero_le _)
theorem OwnF.facts {base:Nat} {w:World} {v:Value} {l:List FactD} (h:OwnF w base v l) (hl:l.length≤3518437208883):Facts w v l:=by
 obtain⟨xs,ho,hx⟩:=h;rcases ho.2 with⟨rfl,e⟩|⟨g,cap,cur,rfl,hbg,hg,_,_,hcs,htake⟩
 ·have:l=[]:=List.eq_nil_of_length_eq_zero e;subst this;exact⟨hl,none,0,rfl,fun e=>absurd rfl e⟩
 ·refine⟨hl,_,cap,rfl,fun _=>⟨g,0,rfl,(Array.getElem?_eq_some_iff.1 hg).1,fun i hi=> ?_⟩⟩;obtain⟨c1,s,c2,c3,_⟩:=hx i hi;have cellOf:∀j u,xs[j]?=some u→w.cell? ⟨g,0+j,none⟩=some u:=fun j u hu=>by
   have:=ho.cells (g:=g) rfl j u hu
   rwa [Addr.add_lit] at this
  exact⟨cellOf _ _ c1,s,by rw[Nat.add_assoc];exact cellOf _ _ c2,c3⟩
theorem OwnF.append {base:Nat} {w:World} {v:Value} {l:List FactD} (h:OwnF w base v l) (f:FactD) (s:Value) (hs:Strs w s f.2) (hsb:∀k,s.ownBlock=some k→base≤k∧k<w.heap.size∧v.ownBlock≠some k) (hl:l.length+1≤3518437208883) (hbase:base≤w.heap.size) (h1:s.oneCell'=true):
  ∃v' w',(Builtin.append_ #[24,24] 24 #[v,.slice (some ⟨w.heap.size,0,none⟩) 1 1]).run Tryz.prog (w.alloc (.cells #[.string f.1,s] 27))=.ok v' w'∧OwnF w' base v' (l++[f])∧(w.alloc (.cells #[.string f.1,s] 27)).grownBy w' v.ownBlock∧w.drawn≤w'.drawn:=by
 obtain⟨xs,ho,hx⟩:=h;obtain⟨i,i1,i2,i3,i4⟩:=infoFact;have hnews:∀j u,([.string f.1,s]:List Value)[j]?=some u→(w.alloc (.cells #[.string f.1,s] 27)).cell? ((⟨w.heap.size,0,none⟩:Addr).add j)=some u:=by
  intro j u hu;rw[Addr.add_lit,Nat.zero_add,cell_of_row _ w.heap.size j #[.string f.1,s] 27 (0,0) (heap_alloc_new w _)];simpa using hu
 obtain⟨v',w',hrun,r1,r2,r3,r4⟩:=append_own (P:=Tryz.prog) (w.alloc (.cells #[.string f.1,s] 27)) base 24 24 27 i _ 2 40 Tryz.underlying24 i1 i2 i3 i4 rfl (by omega) v l.length xs (ho.alloc _) ⟨w.heap.size,0,none⟩ 1 1 [.string f.1,s] rfl hnews
  (by intro u hu;simp at hu;rcases hu with rfl|rfl <;> first|rfl|exact h1) (by simp only[maxLen];omega) (by omega) (by simp;omega)
 refine⟨v',w',hrun,⟨xs++[.string f.1,s],by simpa using r1,fun j hj=> ?_⟩,r2,r3⟩;have hxl:xs.length=l.length*2:=ho.1;have keep:∀{s':Value} {a:List ByteArray},Strs w s' a→(∀k,k<w.heap.size→s'.ownBlock=some k→v.ownBlock≠some k)→Strs w' s' a:=fun hs' hne=>
  hs'.kept' (Nat.le_trans (by simp) r2.size) fun k hk e=>(r2.block k (by simp;omega) (fun e'=>hne k hk e e'.symm)).trans (Below.heap_alloc w _ k hk)
 have own':∀k,v'.ownBlock=some k→v.ownBlock=some k∨w.heap.size<k:=fun k hk=>by
  rcases r4 k hk with e|e
  ·exact Or.inl e
  ·exact Or.inr (by simp at e;omega)
 by_cases hjl:j<l.length
 ·obtain⟨c1,s',c2,c3,c4⟩:=hx j hjl;have e:(l++[f]).getD j noFact=l.getD j noFact:=by
   rw[List.getD_eq_getElem?_getD,List.getD_eq_getElem?_getD,List.getElem?_append_left hjl]
  rw[e];refine⟨by rw[List.getElem?_append_left (by omega)];exact c1,s',by rw[List.getElem?_append_left (by omega)];exact c2,keep c3 fun k _ e=>(c4 k e).2.2,fun k hk=>⟨(c4 k hk).1,by have:=(c4 k hk).2.1;have:=r2.size;simp at this;omega,fun e=> ?_⟩⟩;rcases own' k e with e'|e'
  ·exact(c4 k hk).2.2 e'
  ·have:=(c4 k hk).2.1;omega
 ·have hj':j=l.length:=by simp at hj;omega
  subst hj';have e:(l++[f]).getD l.length noFact=f:=by
   rw[List.getD_eq_getElem?_getD,List.getElem?_append_right (Nat.le_refl _)];simp
  rw[e];refine⟨by rw[List.getElem?_append_right (by omega),hxl];simp,s,by rw[List.getElem?_append_right (by omega),hxl];simp,keep hs fun k _ e=>(hsb k e).2.2,fun k hk=>⟨(hsb k hk).1,by have:=(hsb k hk).2.1;have:=r2.size;simp at this;omega,fun e=> ?_⟩⟩;rcases own' k e with e'|e'
  ·exact(hsb k hk).2.2 e'
  ·have:=hsb k hk;omega
def RowF (w:World) (base:Nat) (v:Value) (l:List FactD):Prop:=
 ∃xs,w.ownsRow base 27 2 v l.length xs∧∀i,i<l.length→xs[i*2]?=some (.string (l.getD i noFact).1)∧∃s,xs[i*2+1]?=some s∧Strs w s (l.getD i noFact).2∧∀k,s.ownBlock=some k→(l.getD i noFact).2≠[]→k<base
theorem Facts.cells {w:World} {a:Addr} {n cap:Nat} {l:List FactD} (h:Facts w (.slice (some a) n cap) l):
  ∃xs:List Value,xs.length=l.length*2∧(∀j u,xs[j]?=some u→w.cell? (a.add j)=some u)∧(∀u∈xs,u.oneCell'=true)∧
   ∀i,i<l.length→xs[i*2]?=some (.string (l.getD i noFact).1)∧∃s,xs[i*2+1]?=some s∧Strs w s (l.getD i noFact).2:=by
 obtain⟨h0,a',cap',e,h1⟩:=h;simp only[Value.slice.injEq] at e;obtain⟨rfl,rfl,rfl⟩:=e
 by_cases hl:l=[]
 ·subst hl;exact⟨[],rfl,fun j u h=>by simp at h,fun u h=>by simp at h,fun i hi=>by simp at hi⟩
 ·obtain⟨b,off,e,hb,hc⟩:=h1 hl;simp only[Option.some.injEq] at e;subst e;have hsv:∀i:Fin l.length,∃s,w.cell? ⟨b,off+i.1*2+1,none⟩=some s∧Strs w s (l.getD i.1 noFact).2:=fun i=>(hc i.1 i.2).2;have key:∀j,j<l.length*2→∃u,w.cell? ⟨b,off+j,none⟩=some u∧u.oneCell'=true:=fun j hj=>by
   have h3:=hc (j/2) (by omega);rcases Nat.mod_two_eq_zero_or_one j with hm|hm
   ·exact⟨.string (l.getD (j/2) noFact).1,by rw[←h3.1,show off+j/2*2=off+j by omega],rfl⟩
   ·obtain⟨s,c2,c3⟩:=h3.2;refine⟨s,by rw[←c2,show off+j/2*2+1=off+j by omega],?_⟩;obtain⟨a,c,rfl⟩:=sliceStr c3
    rfl
  have get:∀j,(List.ofFn fun j:Fin (l.length*2)=>Classical.choose (key j.1 j.2))[j]?=if h:j<l.length*2 then some (Classical.choose (key j h)) else none:=fun j=>by
   rw[List.getElem?_ofFn]
  refine⟨List.ofFn fun j:Fin (l.length*2)=>Classical.choose (key j.1 j.2),by simp,fun j u hu=> ?_,fun u hu=> ?_,fun i hi=> ?_⟩
  ·rw[get] at hu;split at hu
   ·rename_i hj;rw[Addr.add_lit,(Classical.choose_spec (key j hj)).1];exact hu
   ·cases hu
  ·rw[List.mem_ofFn] at hu;obtain⟨j,rfl⟩:=hu;exact(Classical.choose_spec (key j.1 j.2)).2
  ·obtain⟨c1,s,c2,c3⟩:=hc i hi;have e0:=(Classical.choose_spec (key (i*2) (by omega))).1;have e1:=(Classical.choose_spec (key (i*2+1) (by omega))).1;refine⟨?_,s,?_,c3⟩
   ·rw[get,dif_pos (by omega),←e0];exact c1
   ·rw[get,dif_pos (by omega),←e1,←Nat.add_assoc];exact c2
theorem append_none_facts (w:World) (base:Nat) (v:Value) (n:Nat) (xs:List Value) (cap:Nat) (ho:w.ownsRow base 27 2 v n xs):
  (Builtin.append_ #[24,24] 24 #[v,.slice none 0 cap]).run Tryz.prog w=.ok v w:=by
 obtain⟨i,i1,i2,i3,i4⟩:=infoFact;rcases ho.2 with⟨rfl,rfl⟩|⟨g,c,cur,rfl,_,_,hnc,_⟩
 ·simp[Builtin.append_,run_underlying Tryz.underlying24,sizeOf,typeInfo,i1,Builtin.lenOf,Builtin.firstCells]
 ·simp[Builtin.append_,run_underlying Tryz.underlying24,sizeOf,typeInfo,i1,Builtin.lenOf,Builtin.firstCells,hnc,storeCells]
def SrcF (w0 w:World) (a:Addr) (m:List FactD):Prop:=
 ∃ys:List Value,ys.length=m.length*2∧(∀j u,ys[j]?=some u→w.cell? (a.add j)=some u)∧(∀u∈ys,u.oneCell'=true)∧
  ∀i,i<m.length→ys[i*2]?=some (.string (m.getD i noFact).1)∧∃s,ys[i*2+1]?=some s∧Strs w0 s (m.getD i noFact).2
theorem SrcF.of {w0 w:World} {a:Addr} {n cap:Nat} {m:List FactD} (hm:Facts w0 (.slice (some a) n cap) m) (hL:Later w0 w):SrcF w0 w a m:=by
 obtain⟨ys,y1,y2,y3,y4⟩:=hm.cells;exact⟨ys,y1,fun j u hu=>by
  have hc:=y2 j u hu;rw[hL.cell (World.block_lt_of_cell? w0 _ hc)];exact hc,y3,y4⟩
theorem RowF.appendSrc {w0 w:World} {v:Value} {l m:List FactD} {a:Addr} {cap:Nat} (h:RowF w w0.heap.size v l) (hL:Later w0 w) (hm:SrcF w0 w a m) (hl:l.length+m.length≤3518437208883):
  ∃v' w',(Builtin.append_ #[24,24] 24 #[v,.slice (some a) m.length cap]).run Tryz.prog w=.ok v' w'∧RowF w' w0.heap.size v' (l++m)∧Later w0 w'∧
   w.grownBy w' v.ownBlock∧∀k,v'.ownBlock=some k→v.ownBlock=some k∨w.heap.size≤k:=by
 obtain⟨xs,ho,hx⟩:=h;obtain⟨i,i1,i2,i3,i4⟩:=infoFact;obtain⟨ys,y1,y2,y3,y4⟩:=hm;obtain⟨v',w',hrun,r1,r2,r3,r4⟩:=append_own (P:=Tryz.prog) w w0.heap.size 24 24 27 i _ 2 40 Tryz.underlying24 i1 i2 i3 i4 rfl (by omega) v l.length xs ho a m.length cap ys y1 y2 y3 (by simp only[maxLen];omega) (by omega) hL.size;have hL':Later w0 w':=Later.of_below (hL.below.grown r2 hL.size fun k hk=>(ho.lt k hk).1) (Nat.le_trans hL.drawn r3);refine⟨v',w',hrun,⟨xs++ys,by rw[List.length_append];exact r1,fun j hj=> ?_⟩,hL',r2,r4⟩;have hxl:xs.length=l.length*2:=ho.1;have keep:∀{s:Value} {q:List ByteArray},Strs w s q→(∀k,s.ownBlock=some k→q≠[]→k<w0.heap.size)→Strs w' s q:=fun {s q} hs hk=>by
  by_cases hq:q=[]
  ·subst hq;exact hs.nil
  ·exact hs.kept r2.size fun k e=>(hL'.block (hk k e hq)).trans (hL.block (hk k e hq)).symm
 by_cases hjl:j<l.length
 ·obtain⟨c1,s',c2,c3,c4⟩:=hx j hjl;have e:(l++m).getD j noFact=l.getD j noFact:=by
   rw[List.getD_eq_getElem?_getD,List.getD_eq_getElem?_getD,List.getElem?_append_left hjl]
  rw[e];exact⟨by rw[List.getElem?_append_left (by omega)];exact c1,s',by rw[List.getElem?_append_left (by omega)];exact c2,keep c3 c4,c4⟩
 ·have hjm:j-l.length<m.length:=by simp at hj;omega
  obtain⟨c1,s',c2,c3⟩:=y4 (j-l.length) hjm;have e:(l++m).getD j noFact=m.getD (j-l.length) noFact:=by
   rw[List.getD_eq_getElem?_getD,List.getD_eq_getElem?_getD,List.getElem?_append_right (by omega)]
  rw[e];refine⟨by rw[List.getElem?_append_right (by omega),show j*2-xs.length=(j-l.length)*2 by omega];exact c1,s',by rw[List.getElem?_append_right (by omega),show j*2+1-xs.length=(j-l.length)*2+1 by omega];exact c2,c3.later hL',fun k hk ha=>c3.block_lt ha k hk⟩
theorem RowF.append {w0 w:World} {v:Value} {l m:List FactD} {a:Option Addr} {cap:Nat} (h:RowF w w0.heap.size v l) (hL:Later w0 w) (hm:Facts w0 (.slice a m.length cap) m) (hl:l.length+m.length≤3518437208883):
  ∃v' w',(Builtin.append_ #[24,24] 24 #[v,.slice a m.length cap]).run Tryz.prog w=.ok v' w'∧RowF w' w0.heap.size v' (l++m)∧Later w0 w'∧
   w.grownBy w' v.ownBlock∧∀k,v'.ownBlock=some k→v.ownBlock=some k∨w.heap.size≤k:=by
 cases a with
 |none=>
  obtain⟨xs,ho,hx⟩:=h;have hm0:m=[]:=by
   obtain⟨_,a',_,e,h1⟩:=hm;simp only[Value.slice.injEq] at e;refine Classical.byContradiction fun hne=> ?_;obtain⟨b,off,e',_⟩:=h1 hne;rw[e'] at e;cases e.1
  subst hm0;refine⟨v,w,append_none_facts w _ v _ xs cap ho,?_,hL,⟨rfl,rfl,rfl,Nat.le_refl _,fun _ _ _=>rfl⟩,fun k hk=>Or.inl hk⟩;rw[List.append_nil];exact⟨xs,ho,hx⟩
 |some a=>exact h.appendSrc hL (SrcF.of hm hL) hl
theorem RowF.later {w w':World} {base:Nat} {v:Value} {l:List FactD} (h:RowF w base v l) (k:Later w w'):RowF w' base v l:=by
 obtain⟨xs,ho,hx⟩:=h;refine⟨xs,⟨ho.1,?_⟩,fun i hi=> ?_⟩
 ·rcases ho.2 with e|⟨g,cap,cur,rfl,hbg,hg,r⟩
  ·exact Or.inl e
  ·exact Or.inr ⟨g,cap,cur,rfl,hbg,by rw[k.block (Array.getElem?_eq_some_iff.1 hg).1];exact hg,r⟩
 ·obtain⟨c1,s,c2,c3,c4⟩:=hx i hi;exact⟨c1,s,c2,c3.later k,c4⟩
theorem RowF.empty {w:World} {base:Nat} (hb:base≤w.heap.size):RowF (w.alloc (.cells #[] 27)) base (.slice (some ⟨w.heap.size,0,none⟩) 0 0) []:=
 ⟨[],World.ownsRow_made w #[] 0 hb (by simp) (by simp),fun i hi=>by simp at hi⟩
theorem RowF.nil (w:World) (base:Nat):RowF w base (.slice none 0 0) []:=⟨[],World.ownsRow_nil w _ _ _,fun i hi=>by simp at hi⟩
theorem SrcF.one {w0 w:World} {c:Nat} {f:FactD} {s:Value} {t:TypeId} {fr:Nat×Nat} (h:w.heap[c]?=some (.cells #[.string f.1,s] t fr)) (hs:Strs w0 s f.2):SrcF w0 w ⟨c,0,none⟩ [f]:=by
 refine⟨[.string f.1,s],rfl,fun j u hu=> ?_,fun u hu=> ?_,fun i hi=> ?_⟩
 ·rw[Addr.add_lit,Nat.zero_add,cell_of_row _ _ _ _ _ _ h];simpa using hu
 ·simp at hu;rcases hu with rfl|rfl
  ·rfl
  ·obtain⟨a,c,rfl⟩:=sliceStr hs;rfl
 ·have:i=0:=by simp at hi;omega
  subst this;exact⟨rfl,s,rfl,hs⟩
theorem RowF.facts {base:Nat} {w:World} {v:Value} {l:List FactD} (h:RowF w base v l) (hl:l.length≤3518437208883):Facts w v l:=by
 obtain⟨xs,ho,hx⟩:=h;rcases ho.2 with⟨rfl,e⟩|⟨g,cap,cur,rfl,hbg,hg,_⟩
 ·have:l=[]:=List.eq_nil_of_length_eq_zero e;subst this;exact⟨hl,none,0,rfl,fun e=>absurd rfl e⟩
 ·refine⟨hl,_,cap,rfl,fun _=>⟨g,0,rfl,(Array.getElem?_eq_some_iff.1 hg).1,fun i hi=> ?_⟩⟩;obtain⟨c1,s,c2,c3,_⟩:=hx i hi;have cellOf:∀j u,xs[j]?=some u→w.cell? ⟨g,0+j,none⟩=some u:=fun j u hu=>by
   have:=ho.cells (g:=g) rfl j u hu
   rwa [Addr.add_lit] at this
  exact⟨cellOf _ _ c1,s,by rw[Nat.add_assoc];exact cellOf _ _ c2,c3⟩
theorem Facts.take {w:World} {a:Option Addr} {n cap:Nat} {l:List FactD} (h:Facts w (.slice a n cap) l) {k:Nat} (hk:k≤l.length):Facts w (.slice a (l.take k).length cap) (l.take k):=by
 obtain⟨h0,a',cap',e,h1⟩:=h;simp only[Value.slice.injEq] at e;obtain⟨rfl,rfl,rfl⟩:=e;refine⟨by rw[List.length_take];omega,_,_,rfl,fun hne=> ?_⟩;obtain⟨b,off,e,hb,hc⟩:=h1 (by intro e;apply hne;rw[e];simp);refine⟨b,off,e,hb,fun i hi=> ?_⟩;rw[List.length_take] at hi;have e:(l.take k).getD i noFact=l.getD i noFact:=by
  rw[List.getD_eq_getElem?_getD,List.getD_eq_getElem?_getD,List.getElem?_take,if_pos (by omega)]
 rw[e];exact hc i (by omega)
theorem Facts.drop {w:World} {b off n cap:Nat} {l:List FactD} (h:Facts w (.slice (some ⟨b,off,none⟩) n cap) l) {k:Nat} (hk:k≤l.length) (c:Nat):Facts w (.slice (some ⟨b,off+k*2,none⟩) (l.drop k).length c) (l.drop k):=by
 obtain⟨h0,a',cap',e,h1⟩:=h;simp only[Value.slice.injEq] at e;obtain⟨rfl,rfl,rfl⟩:=e;refine⟨by rw[List.length_drop];omega,_,_,rfl,fun hne=> ?_⟩;obtain⟨b',off',e,hb,hc⟩:=h1 (by intro e;apply hne;rw[e];simp);simp only[Option.some.injEq,Addr.mk.injEq] at e;obtain⟨rfl,rfl,_⟩:=e;refine⟨b,_,rfl,hb,fun i hi=> ?_⟩;rw[List.length_drop] at hi;have e:(l.drop k).getD i noFact=l.getD (k+i) noFact:=by
  rw[List.getD_eq_getElem?_getD,List.getD_eq_getElem?_getD,List.getElem?_drop]
 rw[e];have:=hc (k+i) (by omega);rw[show off+(k+i)*2=off+k*2+i*2 by omega] at this;exact this
theorem OwnF.base {w:World} {base base':Nat} {v:Value} {l:List FactD} (h:OwnF w base v l) (hb:base'≤base):OwnF w base' v l:=by
 obtain⟨xs,ho,hx⟩:=h;refine⟨xs,⟨ho.1,?_⟩,fun i hi=> ?_⟩
 ·rcases ho.2 with e|⟨g,cp,cur,e,hg,r⟩
  ·exact Or.inl e
  ·exact Or.inr ⟨g,cp,cur,e,Nat.le_trans hb hg,r⟩
 ·obtain⟨c1,s,c2,c3,c4⟩:=hx i hi;exact⟨c1,s,c2,c3,fun k hk=>⟨Nat.le_trans hb (c4 k hk).1,(c4 k hk).2⟩⟩
end Go.Proofs.YtafmbokfkbccaaaGreatDoor
