import Derived.Test.YtafmbokfkbccaaaGreatDoorJD21
import Derived.Test.YtafmbokfkbccaaaGreatDoorJD5
import Derived.Test.YtafmbokfkbccaaaGreatDoorJD6
import Derived.Lib.AppendStr
import Derived.Test.YtafmbokfkbccaaaGreatDoorJD13
import Derived.Test.YtafmbokfkbccaaaGreatDoorJD14
import Derived.Test.YtafmbokfkbccaaaGreatDoorJD22
import Derived.Lib.SlBytesRow
namespace Go.Proofs.YtafmbokfkbccaaaGreatDoor
def flagB (b:Bool):UInt8:=if b then 1 else 0
def wText (s:ByteArray):Bs:=UInt8.ofNat s.size::raw s
def wFact (f:FactB):Bs:=wText f.1++(UInt8.ofNat f.2.length::f.2.flatMap wText)
def wHead (r:RunD):Bs:=[UInt8.ofNat r.level.toNat,UInt8.ofNat (r.rounds.toNat/256),UInt8.ofNat (r.rounds.toNat%256),flagB r.done,UInt8.ofNat r.known.length]
def wRun (r:RunD):Bs:=wHead r++r.known.flatMap wFact++r.known.map fun f=>flagB (inB r.fresh f)
abbrev RdS:=Bs×Bool
def rTake (n:Nat) (s:RdS):Bs×RdS:=if s.1.length<n then([],([],true)) else(s.1.take n,(s.1.drop n,s.2))
def rNum (s:RdS):Nat×RdS:=(((rTake 1 s).1.headD 0).toNat,(rTake 1 s).2)
def rText (s:RdS):ByteArray×RdS:=(bs (rTake (rNum s).1 (rNum s).2).1,(rTake (rNum s).1 (rNum s).2).2)
def rFlag (s:RdS):Bool×RdS:=(decide ((rNum s).1=1),((rNum s).2.1,(rNum s).2.2||decide (1<(rNum s).1)))
def rTexts:Nat→RdS→List ByteArray×RdS
 |0,s=>([],s)
 |n+1,s=>((rText s).1::(rTexts n (rText s).2).1,(rTexts n (rText s).2).2)
def rFact (s:RdS):FactB×RdS:=(((rText s).1,(rTexts (rNum (rText s).2).1 (rNum (rText s).2).2).1),(rTexts (rNum (rText s).2).1 (rNum (rText s).2).2).2)
def rFacts:Nat→RdS→List FactB×RdS
 |0,s=>([],s)
 |n+1,s=>((rFact s).1::(rFacts n (rFact s).2).1,(rFacts n (rFact s).2).2)
def rNews:List FactB→RdS→List FactB×RdS
 |[],s=>([],s)
 |f::l,s=>(if(rFlag s).1 then f::(rNews l (rFlag s).2).1 else(rNews l (rFlag s).2).1,(rNews l (rFlag s).2).2)
def rHead (s:RdS):(Nat×Nat×Nat×Bool×Nat)×RdS:=
 let a:=rNum s;let b:=rNum a.2;let c:=rNum b.2;let d:=rFlag c.2;let e:=rNum d.2
 ((a.1,b.1,c.1,d.1,e.1),e.2)
def rRun (s:RdS):RunD×RdS:=
 let h:=rHead s;let k:=rFacts h.1.2.2.2.2 h.2;let n:=rNews k.1 k.2
 (⟨k.1,n.1,h.1.1,256*h.1.2.1+h.1.2.2.1,h.1.2.2.2.1⟩,n.2)
def readP (b:Bs):RunD×Bool:=((rRun (b,false)).1,!(rRun (b,false)).2.2&&decide ((rRun (b,false)).2.1=[]))
theorem rTake_app {n:Nat} {t l:Bs} {a:Bool} (h:t.length=n):rTake n (t++l,a)=(t,(l,a)):=by
 subst h;unfold rTake;rw[if_neg (by simp),List.take_left,List.drop_left]
theorem rNum_cons (c:UInt8) (l:Bs) (a:Bool):rNum (c::l,a)=(c.toNat,(l,a)):=by
 unfold rNum;rw[show((c::l,a):RdS)=([c]++l,a) from rfl,rTake_app (n:=1) rfl];rfl
theorem ofNat_toNat {n:Nat} (h:n<256):(UInt8.ofNat n).toNat=n:=by simp;omega
theorem rText_app {t:ByteArray} {l:Bs} {a:Bool} (h:t.size<256):rText (wText t++l,a)=(t,(l,a)):=by
 unfold rText;rw[wText,List.cons_append,rNum_cons];simp only;rw[ofNat_toNat h,rTake_app (length_raw t),bs_raw]
theorem rFlag_cons (b:Bool) (l:Bs) (a:Bool):rFlag (flagB b::l,a)=(b,(l,a)):=by
 unfold rFlag;rw[rNum_cons];cases b <;> cases a <;> rfl
theorem rTexts_app:∀{ts:List ByteArray} {l:Bs} {a:Bool},(∀t∈ts,t.size<256)→rTexts ts.length (ts.flatMap wText++l,a)=(ts,(l,a))
 |[],l,a,_=>rfl
 |t::ts,l,a,h=>by
  rw[List.flatMap_cons,List.append_assoc,List.length_cons,rTexts,rText_app (h t (by simp)),rTexts_app fun t ht=>h t (by simp[ht])]
def ByteF (f:FactB):Prop:=f.1.size<256∧f.2.length<256∧∀t∈f.2,t.size<256
theorem rFact_app {f:FactB} {l:Bs} {a:Bool} (h:ByteF f):rFact (wFact f++l,a)=(f,(l,a)):=by
 unfold rFact wFact;rw[List.append_assoc,rText_app h.1,List.cons_append];simp only;rw[rNum_cons];simp only;rw[ofNat_toNat h.2.1,rTexts_app h.2.2]
theorem rFacts_app:∀{fs:List FactB} {l:Bs} {a:Bool},(∀f∈fs,ByteF f)→rFacts fs.length (fs.flatMap wFact++l,a)=(fs,(l,a))
 |[],l,a,_=>rfl
 |t::ts,l,a,h=>by
  rw[List.flatMap_cons,List.append_assoc,List.length_cons,rFacts,rFact_app (h t (by simp)),rFacts_app fun t ht=>h t (by simp[ht])]
theorem rNews_app (N:List FactB):∀{fs:List FactB} {l:Bs} {a:Bool},rNews fs (fs.map (fun f=>flagB (inB N f))++l,a)=(fs.filter (inB N),(l,a))
 |[],l,a=>rfl
 |t::ts,l,a=>by
  rw[List.map_cons,List.cons_append,rNews,rFlag_cons];simp only;rw[rNews_app N,List.filter_cons]
structure ByteR (r:RunD):Prop where
 lev0:0≤r.level
 lev:r.level<256
 rou0:0≤r.rounds
 rou:r.rounds<65536
 few:r.known.length<256
 facts:∀f∈r.known,ByteF f
 fresh:r.fresh=r.known.filter (inB r.fresh)
theorem read_run {r:RunD} (h:ByteR r):rRun (wRun r,false)=(r,([],false)):=by
 obtain⟨h1,h2,h3,h4,h5,h6,h7⟩:=h;have e:rHead (wRun r,false)=((r.level.toNat,r.rounds.toNat/256,r.rounds.toNat%256,r.done,r.known.length),(r.known.flatMap wFact++(r.known.map (fun f=>flagB (inB r.fresh f))++[]),false)):=by
  unfold rHead wRun wHead;simp only[List.cons_append,List.nil_append,List.append_nil];simp only[rNum_cons,rFlag_cons];rw[ofNat_toNat (by omega),ofNat_toNat (by omega),ofNat_toNat (by omega),ofNat_toNat h5]
 unfold rRun;rw[e];simp only;rw[rFacts_app h6];simp only;rw[rNews_app,←h7];obtain⟨k,n,lv,ro,dn⟩:=r;simp only[Prod.mk.injEq,RunD.mk.injEq,true_and,and_true] at*;omega
theorem read_wrun {r:RunD} (h:ByteR r):readP (wRun r)=(r,true):=by
 unfold readP;rw[read_run h];rfl
end Go.Proofs.YtafmbokfkbccaaaGreatDoor
namespace Go.Proofs.YtafmbokfkbccaaaGreatDoor
open Go.RowKit Go.Sort
theorem infoU8:∃i,Tryz.prog.info? 5=some i∧i.zero=some (.int .u8 0)∧i.size=1∧i.bytes=1:=⟨Tryz.t5,by kernel_rfl,by kernel_rfl,by kernel_rfl,by kernel_rfl⟩
def cellsY (l:Bs):List Value:=l.map fun b=>.int .u8 (b.toNat:Int)
theorem cellsY_len (l:Bs):(cellsY l).length=l.length:=List.length_map _
theorem cellsY_append (l m:Bs):cellsY (l++m)=cellsY l++cellsY m:=List.map_append
theorem cellsY_raw (s:ByteArray):Lib.strCells s=cellsY (raw s):=rfl
def BytO (lo:Nat) (w:World) (v:Value) (l:Bs):Prop:=w.ownsRow lo 5 1 v l.length (cellsY l)
theorem BytO.lt {lo:Nat} {w:World} {v:Value} {l:Bs} (h:BytO lo w v l) {k:Nat} (hk:v.ownBlock=some k):lo≤k∧k<w.heap.size:=World.ownsRow.lt h k hk
theorem BytO.slice {lo:Nat} {w:World} {v:Value} {l:Bs} (h:BytO lo w v l):∃a cap,v=.slice a l.length cap:=by
 rcases h.2 with⟨rfl,e⟩|⟨g,cap,cur,rfl,_⟩
 ·exact⟨none,0,by rw[e]⟩
 ·exact⟨_,cap,rfl⟩
theorem BytO.slice3 {lo:Nat} {w:World} {v:Value} {l:Bs} (h:BytO lo w v l):∃a n cap,v=.slice a n cap:=by
 obtain⟨a,cap,e⟩:=h.slice;exact⟨a,_,cap,e⟩
theorem BytO.stay {lo:Nat} {w w':World} {v:Value} {l:Bs} (h:BytO lo w v l) (hk:∀k,k<w.heap.size→lo≤k→w'.heap[k]?=w.heap[k]?):BytO lo w' v l:=by
 refine⟨h.1,?_⟩;rcases h.2 with e|⟨g,cap,cur,rfl,hbg,hg,r⟩
 ·exact Or.inl e
 ·exact Or.inr ⟨g,cap,cur,rfl,hbg,by rw[hk g (Array.getElem?_eq_some_iff.1 hg).1 hbg];exact hg,r⟩
theorem BytO.later {lo:Nat} {w w':World} {v:Value} {l:Bs} (h:BytO lo w v l) (k:Later w w'):BytO lo w' v l:=h.stay fun _ hi _=>k.block hi
structure Gro (v:Value) (w:World) (v':Value) (w':World):Prop where
 os:w'.os=w.os
 tape:w'.tape=w.tape
 output:w'.output=w.output
 size:w.heap.size≤w'.heap.size
 block:∀k,k<w.heap.size→v.ownBlock≠some k→w'.heap[k]?=w.heap[k]?
 own:∀k,v'.ownBlock=some k→v.ownBlock=some k∨w.heap.size≤k
theorem Gro.refl (v:Value) (w:World):Gro v w v w:=⟨rfl,rfl,rfl,Nat.le_refl _,fun _ _ _=>rfl,fun _ h=>Or.inl h⟩
theorem Gro.trans {v v1 v2:Value} {w w1 w2:World} (h:Gro v w v1 w1) (k:Gro v1 w1 v2 w2):Gro v w v2 w2:=
 ⟨k.os.trans h.os,k.tape.trans h.tape,k.output.trans h.output,Nat.le_trans h.size k.size,
  fun i hi hv=>(k.block i (Nat.lt_of_lt_of_le hi h.size) fun e=>by rcases h.own i e with e|e;exact hv e;omega).trans (h.block i hi hv),
  fun i hi=>by
   rcases k.own i hi with e|e
   ·exact h.own i e
   ·exact Or.inr (Nat.le_trans h.size e)⟩
theorem Gro.of_later {v:Value} {w w':World} (h:Later w w'):Gro v w v w':=⟨h.below.os,h.below.tape,h.below.output,h.size,fun _ hi _=>h.block hi,fun _ e=>Or.inl e⟩
theorem Gro.of_below {v:Value} {w w':World} (h:Below w.heap.size w w'):Gro v w v w':=⟨h.os,h.tape,h.output,h.size,fun k hi _=>h.block k hi,fun _ e=>Or.inl e⟩
theorem Gro.below {lo:Nat} {v v':Value} {w w':World} (h:Gro v w v' w') (hlo:lo≤w.heap.size) (hv:∀k,v.ownBlock=some k→lo≤k):Below lo w w':=
 ⟨h.os,h.tape,h.output,h.size,fun k hk=>h.block k (by omega) fun e=>by have:=hv k e;omega⟩
theorem appendByte {lo:Nat} {w:World} {v:Value} {l:Bs} (h:BytO lo w v l) {x:UInt8} {n:Int} (hx:(x.toNat:Int)=n) (hl:l.length+1≤1099511627776) (hlo:lo≤w.heap.size):
  ∃v' w',(Builtin.append_ #[48,48] 48 #[v,.slice (some ⟨w.heap.size,0,none⟩) 1 1]).run Tryz.prog (w.alloc (.cells #[.int .u8 n] 5))=.ok v' w'∧BytO lo w' v' (l++[x])∧Gro v w v' w':=by
 subst hx;obtain⟨i,i1,i2,i3,i4⟩:=infoU8;obtain⟨v',w',hrun,r1,r2,_,r4⟩:=append_own (P:=Tryz.prog) (w.alloc (.cells #[.int .u8 (x.toNat:Int)] 5)) lo 48 48 5 i _ 1 1 Tryz.underlying48 i1 i2 i3 i4 rfl Nat.one_pos v l.length (cellsY l) (World.ownsRow.alloc h _) ⟨w.heap.size,0,none⟩ 1 1 [.int .u8 (x.toNat:Int)] rfl
  (fun j u hu=>by
   rw[Addr.add_lit,Nat.zero_add,cell_of_row _ w.heap.size j _ _ _ (heap_alloc_new w _)];simpa using hu)
  (fun u hu=>by simp at hu;subst hu;rfl) (by simp only[maxLen];omega) (by omega) (by simp;omega)
 refine⟨v',w',hrun,?_,?_⟩
 ·unfold BytO;rw[cellsY_append,List.length_append];exact r1
 ·exact⟨r2.os,r2.tape,r2.output,Nat.le_trans (by simp) r2.size,fun k hk hv=>(r2.block k (by simp;omega) (fun e=>hv e.symm)).trans (Below.heap_alloc w _ k hk),
   fun k e=>(r4 k e).imp id fun h=>by simp at h;omega⟩
theorem appendText {lo:Nat} {w:World} {v:Value} {l:Bs} (h:BytO lo w v l) (s:ByteArray) (hl:l.length+s.size≤1099511627776) (hlo:lo≤w.heap.size):
  ∃v' w',(Builtin.append_ #[48,9] 48 #[v,.string s]).run Tryz.prog w=.ok v' w'∧BytO lo w' v' (l++raw s)∧Gro v w v' w':=by
 obtain⟨i,i1,i2,i3,i4⟩:=infoU8;obtain⟨v',w',hrun,r1,r2,_⟩:=Lib.run_append_own_string (P:=Tryz.prog) w lo 48 9 48 5 i Tryz.underlying48 Tryz.underlying9 i1 i2 i3 i4 v l.length (cellsY l) h s (by simp only[maxLen];omega) (by omega) hlo;refine⟨v',w',hrun,?_,?_⟩
 ·unfold BytO;rw[cellsY_append,List.length_append,length_raw,←cellsY_raw];exact r1
 ·refine⟨r2.os,r2.tape,r2.output,r2.size,fun k hk hv=>r2.block k hk (fun e=>hv e.symm),fun k e=> ?_⟩;have hxl:(cellsY l).length=l.length:=cellsY_len l;rcases h.2 with⟨rfl,h0⟩|⟨g,cap,cur,rfl,hbg,hg,hnc,hcm,hcs,htake⟩
  ·have hx:cellsY l=[]:=List.eq_nil_of_length_eq_zero (by rw[cellsY_len];exact h0);obtain⟨v2,w2,hrun2,q1,_⟩:=Lib.run_append_own_string (P:=Tryz.prog) w w.heap.size 48 9 48 5 i Tryz.underlying48 Tryz.underlying9 i1 i2 i3 i4 (.slice none 0 0) 0 [] (World.ownsRow_nil w _ _ _) s (by simp only[maxLen];omega) (by omega) (Nat.le_refl _);rw[hrun] at hrun2;cases hrun2;exact Or.inr (q1.lt k e).1
  ·by_cases hroom:l.length+s.size≤cap
   ·have hr:=Lib.run_append_room_string (P:=Tryz.prog) w 48 9 48 5 i Tryz.underlying48 Tryz.underlying9 i1 i3 g l.length cap cur hg s hroom (by omega);rw[hrun] at hr;cases hr;exact Or.inl e
   ·have holds:∀j u,(cellsY l)[j]?=some u→w.cell? ((⟨g,0,none⟩:Addr).add j)=some u:=World.ownsRow.cells h (g:=g) rfl;have hr:=Lib.run_append_grow_string (P:=Tryz.prog) w 48 9 48 5 i (.int .u8 0) Tryz.underlying48 Tryz.underlying9 i1 i2 ⟨g,0,none⟩ l.length cap (cellsY l) (by rw[i3];simpa using hxl) holds s (by omega) (by omega) (by rw[i4];exact growslice_fits (by omega) (by omega));rw[hrun] at hr;cases hr;simp[Value.ownBlock] at e;exact Or.inr (by omega)
theorem wpList_append_run2 {P:Program} {w:World} {ops:Array Oper} {rest:List Oper} {o:Oper} {a:Act} {Q:Exit→Act→World→Prop} (hgd:o.guard=none) (s x:Operand) (t u:TypeId)
  (ho:o.op=.call {callee:=.builtin .append,args:=#[s,x],argTypes:=#[t,u]}) (v1 v2 v':Value) (w':World) (hs:a.eval s=v1) (hx:a.eval x=v2)
  (hrun:(Builtin.append_ #[t,u] o.type #[v1,v2]).run P w=.ok v' w') (h:wpList P ops Q rest (a.put o.dst v') w'):wpList P ops Q (o::rest) a w:=
 wpList_plain hgd fun _ hK=>by
  unfold Oper.wp execOp;simp only[ho,resolve,invoke,builtin,Sem.run_bind,Sem.run_pure,Result.andThen_ok,List.map_toArray,List.map_cons,List.map_nil,hs,hx,hrun];exact hK _ _ h
theorem flagC (b:Bool) (w:World):Calls Tryz.prog 129 #[.bool b] w fun e w'=>e=.returned (.int .u8 ((flagB b).toNat:Int))∧w'=w:=by
 cases b
 ·go_enter Tryz.func129,Tryz.ntmps129
  go_wp2;go_ret;exact⟨rfl,rfl⟩
 ·go_enter Tryz.func129,Tryz.ntmps129
  go_wp2;go_ret;exact⟨rfl,rfl⟩
theorem byte_size {n:Nat} (h:n<256):(((UInt8.ofNat n).toNat:Nat):Int)=(n:Int):=by rw[ofNat_toNat h]
set_option maxRecDepth 100000 in
set_option maxHeartbeats 1000000 in
theorem addTextC (lo:Nat) (v:Value) (l:Bs) (s:ByteArray) (w:World) (h:BytO lo w v l) (hs:s.size<256) (hl:l.length≤1000000000) (hlo:lo≤w.heap.size):
  Calls Tryz.prog 197 #[v,.string s] w fun e w'=>∃v',e=.returned v'∧BytO lo w' v' (l++wText s)∧Gro v w v' w':=by
 obtain⟨v1,w1,hr1,hO1,hB1⟩:=appendByte h (byte_size hs) (by omega) hlo;obtain⟨v2,w2,hr2,hO2,hB2⟩:=appendText hO1 s (by simp;omega) (Nat.le_trans hlo hB1.size);obtain⟨a0,n0,c0,rfl⟩:=h.slice3;obtain⟨a1,n1,c1,rfl⟩:=hO1.slice3;obtain⟨a2,n2,c2,rfl⟩:=hO2.slice3;have HR1:=hide hr1;have HR2:=hide hr2;have HO2:=hide hO2;have HB2:=hide (hB1.trans hB2);clear h hr1 hr2 hO1 hO2 hB1 hB2
 go_enter Tryz.func197,Tryz.ntmps197
 go_wp2_with (first|(at_builtin;refine wpList_append_run rfl (.tmp 5) (.tmp 9) 48 rfl _ _ _ _ rfl rfl HR1.out ?_)|(at_builtin;refine wpList_append_run2 rfl (.tmp 10) (.tmp 11) 48 9 rfl _ _ _ _ rfl rfl HR2.out ?_))
 go_ret;exact⟨_,rfl,by have:=HO2.out;rw[List.append_assoc] at this;exact this,HB2.out⟩
def wPart (f:FactB) (j:Nat):Bs:=wText f.1++(UInt8.ofNat f.2.length::(f.2.take j).flatMap wText)
theorem wPart_step {f:FactB} {j:Nat} {s:ByteArray} (h:f.2[j]?=some s):wPart f (j+1)=wPart f j++wText s:=by
 unfold wPart;rw[List.take_add_one,h];simp[List.flatMap_append]
theorem wPart_end {f:FactB} {j:Nat} (h:f.2.length≤j):wPart f j=wFact f:=by
 unfold wPart wFact;rw[List.take_of_length_le h]
theorem wText_len (s:ByteArray):(wText s).length=s.size+1:=by unfold wText;rw[List.length_cons,length_raw]
theorem wTexts_len:∀(l:List ByteArray),(∀t∈l,t.size<256)→(l.flatMap wText).length≤l.length*256
 |[],_=>by simp
 |t::l,h=>by
  have h1:=wTexts_len l fun t ht=>h t (by simp[ht]);have h2:=h t (by simp);rw[List.flatMap_cons,List.length_append,wText_len,List.length_cons];omega
theorem wPart_len {f:FactB} (h:ByteF f) (j:Nat):(wPart f j).length≤66000:=by
 unfold wPart;have h1:=wTexts_len (f.2.take j) fun t ht=>h.2.2 t (List.mem_of_mem_take ht);have h2:(f.2.take j).length≤f.2.length:=List.length_take_le' _ _;have:=h.1;have:=h.2.1;rw[List.length_append,wText_len,List.length_cons];omega
set_option maxRecDepth 100000 in
set_option maxHeartbeats 1000000 in
theorem addFactC (w0:World) (v s:Value) (l:Bs) (f:FactB) (w:World) (h:BytO w0.heap.size w v l) (hs:Strs w0 s f.2) (hB:Below w0.heap.size w0 w) (hf:ByteF f) (hl:l.length≤100000000):
  Calls Tryz.prog 130 #[v,.agg #[.string f.1,s]] w fun e w'=>∃v',e=.returned v'∧BytO w0.heap.size w' v' (l++wFact f)∧Gro v w v' w':=by
 obtain⟨w1,hw1⟩:∃w1,w1=w.alloc (.cells #[.string f.1,s] 27):=⟨_,rfl⟩;have hL1:Later w w1:=by rw[hw1];exact(Later.refl w).alloc _
 have hr1:w1.heap[w.heap.size]?=some (.cells #[.string f.1,s] 27 (0,0)):=by rw[hw1];exact heap_alloc_new w _
 have hlt1:=(Array.getElem?_eq_some_iff.1 hr1).1;have hO1:=h.later hL1;have hv1:∀k,v.ownBlock=some k→w0.heap.size≤k∧k<w.heap.size:=fun k e=>h.lt e;have HT:=hide (addTextC w0.heap.size v l f.1 w1 hO1 hf.1 (by omega) (Nat.le_trans hB.size hL1.size));obtain⟨sa,sc,rfl⟩:=sliceStr hs;obtain⟨va,vn,vc,rfl⟩:=h.slice3;obtain⟨_,sa',sc',se,hsb⟩:=hs;simp only[Value.slice.injEq,true_and] at se;obtain⟨rfl,rfl⟩:=se;have HSb:=hide hsb;have HW1:=hide hw1;have HR1:=hide hr1;have HF:=hide hf;have HB:=hide hB;have HV1:=hide hv1;have HL1:=hide hL1;have hszB:=hB.size;have hfa:=hf.2.1;clear h hw1 hL1 hO1 hf hsb hv1 hr1 hB;generalize hA:f.2.length=na at*;have HA:=hide hA;clear hA;generalize hN:f.1=nm at*;have HN:=hide hN;clear hN;have q0:w1.cell? ⟨w.heap.size,0,none⟩=some (.string nm):=by rw[cell_of_row _ _ _ _ _ _ HR1.out];rfl
 go_enter Tryz.func130,Tryz.ntmps130
 go_wp2_with (first|(rw[←HW1.out])|fail)
 refine HT.out.mono ?_;rintro e w2 ⟨v2,rfl,hO2,hG2⟩;have hr2:w2.heap[w.heap.size]?=some (.cells #[.string nm,.slice sa na sc] 27 (0,0)):=by
  rw[hG2.block _ hlt1 (fun e=>by have:=HV1.out _ e;omega)];exact HR1.out
 have hG12:Gro (.slice va vn vc) w v2 w2:=(Gro.of_later HL1.out).trans hG2;have q1:w2.cell? ⟨w.heap.size,0+1,none⟩=some (.slice sa na sc):=by rw[cell_of_row _ _ _ _ _ _ hr2];rfl
 have q1':w2.cell? ⟨w.heap.size,1,none⟩=some (.slice sa na sc):=q1;have hz2:=hG12.size;have hl2:(l++wText nm).length≤100100000:=by
  have:=HF.out.1;rw[List.length_append,wText_len,←HN.out];omega
 obtain⟨v3,w3,hrun3,hO3,hG3⟩:=appendByte hO2 (byte_size hfa) (by omega) (by omega);have hr3:∀v w',Gro v2 w2 v w'→w'.heap[w.heap.size]?=some (.cells #[.string nm,.slice sa na sc] 27 (0,0)):=fun v w' hg=>by
  rw[hg.block _ (Array.getElem?_eq_some_iff.1 hr2).1 (fun e=>by
   rcases hG2.own _ e with e|e
   ·have:=HV1.out _ e;omega
   ·omega)]
  exact hr2
 have hr33:=hr3 _ _ hG3;have q3:w3.cell? ⟨w.heap.size,0+1,none⟩=some (.slice sa na sc):=by rw[cell_of_row _ _ _ _ _ _ hr33];rfl
 have q3':w3.cell? ⟨w.heap.size,1,none⟩=some (.slice sa na sc):=q3;obtain⟨a2,n2,c2,rfl⟩:=hO2.slice3;obtain⟨a3,n3,c3,rfl⟩:=hO3.slice3;have hG13:=hG12.trans hG3;have HRun:=hide hrun3;have HO3:Hid (BytO w0.heap.size w3 (.slice a3 n3 c3) (l++wPart f 0)):=by
  show BytO _ _ _ _;have:=hO3;rw[←HA.out,←HN.out,List.append_assoc] at this;exact this
 have HG13:=hide hG13;clear hO2 hG2 hr2 hG12 hrun3 hO3 hG3 hr3 hr33 hG13 HT HW1 HR1 q0 hl2
 go_wp2_with (first|(at_builtin;refine wpList_append_run rfl (.tmp 11) (.tmp 16) 48 rfl _ _ _ _ rfl rfl HRun.out ?_))
 clear HRun q1 q1' q3 q3'
 go_loopg [0,21] na (fun g o i wr=>∃j:Nat,j+g=na∧i=.int .i64 j∧Hid (BytO w0.heap.size wr o (l++wPart f j))∧Hid (Gro (.slice va vn vc) w o wr))
 case atStart=>exact⟨0,by omega,rfl,HO3,HG13⟩
 case round=>
  clear HO3 HG13;obtain⟨j,hj,rfl,HO,HG⟩:=hrel
  by_cases hlt:j<na
  ·obtain⟨x,hx⟩:∃x,f.2[j]?=some x:=⟨_,List.getElem?_eq_getElem (by rw[HA.out];exact hlt)⟩;obtain⟨b,off,rfl,hb,hc⟩:=HSb.out (fun e=>by rw[e] at hx;simp at hx);have hBr:Below w0.heap.size w0 wr:=HB.out.trans (HG.out.below hszB fun k e=>(HV1.out k e).1);have d0:wr.cell? ⟨b,off+j,none⟩=some (.string x):=by
    rw[hBr.cell (p:=⟨b,off+j,none⟩) hb,hc j hlt];simp[List.getD_eq_getElem?_getD,hx]
   have hpl:=wPart_len HF.out j;have HC:=hide (addTextC w0.heap.size u0 (l++wPart f j) x wr HO.out (HF.out.2.2 x (List.mem_of_getElem? hx)) (by simp;omega) (Nat.le_trans hszB HG.out.size));have HS:=hide (wPart_step hx);obtain⟨a4,n4,c4,rfl⟩:=HO.out.slice3;clear hc hBr hpl hx
   go_wp2_with fail
   refine HC.out.mono ?_;rintro e w5 ⟨v5,rfl,hO5,hG5⟩;have HO5:Hid (BytO w0.heap.size w5 v5 (l++wPart f (j+1))):=by
    show BytO _ _ _ _;rw[HS.out,←List.append_assoc];exact hO5
   have HG5:=hide (HG.out.trans hG5);obtain⟨a5,n5,c5,rfl⟩:=hO5.slice3;clear hO5 hG5 HC HO HG HS d0;go_wp2
   go_roundg (na- (j+1))
   case measure=>omega
   case rel=>exact⟨j+1,by omega,by go_num,HO5,HG5⟩
  ·have HO2:Hid (BytO w0.heap.size wr u0 (l++wFact f)):=by
    have:=HO.out;rw[wPart_end (by rw[HA.out];omega)] at this;exact this
   obtain⟨a4,n4,c4,rfl⟩:=HO.out.slice3;go_wp2;go_ret;exact⟨_,rfl,HO2.out,HG.out⟩
end Go.Proofs.YtafmbokfkbccaaaGreatDoor
namespace Go.Proofs.YtafmbokfkbccaaaGreatDoor
open Go.RowKit Go.Sort
def wSome (r:RunD) (j:Nat):Bs:=wHead r++(r.known.take j).flatMap wFact
def wMore (r:RunD) (j:Nat):Bs:=wHead r++r.known.flatMap wFact++(r.known.take j).map fun f=>flagB (inB r.fresh f)
theorem wSome_step {r:RunD} {j:Nat} {f:FactB} (h:r.known[j]?=some f):wSome r (j+1)=wSome r j++wFact f:=by
 unfold wSome;rw[List.take_add_one,h];simp[List.flatMap_append]
theorem wSome_end {r:RunD} {j:Nat} (h:r.known.length≤j):wSome r j=wMore r 0:=by
 unfold wSome wMore;rw[List.take_of_length_le h];simp
theorem wMore_step {r:RunD} {j:Nat} {f:FactB} (h:r.known[j]?=some f):wMore r (j+1)=wMore r j++[flagB (inB r.fresh f)]:=by
 unfold wMore;rw[List.take_add_one,h];simp
theorem wMore_end {r:RunD} {j:Nat} (h:r.known.length≤j):wMore r j=wRun r:=by
 unfold wMore wRun;rw[List.take_of_length_le h]
theorem wFacts_len:∀(l:List FactB),(∀f∈l,ByteF f)→(l.flatMap wFact).length≤l.length*66000
 |[],_=>by simp
 |f::l,h=>by
  have h1:=wFacts_len l fun t ht=>h t (by simp[ht]);have h2:=wPart_len (h f (by simp)) f.2.length;rw[wPart_end (Nat.le_refl _)] at h2;rw[List.flatMap_cons,List.length_append,List.length_cons];omega
theorem wSome_len {r:RunD} (h:ByteR r) (j:Nat):(wSome r j).length≤17000000:=by
 have h1:=wFacts_len (r.known.take j) fun f hf=>h.facts f (List.mem_of_mem_take hf);have h2:(r.known.take j).length≤r.known.length:=List.length_take_le' _ _;have:=h.few;unfold wSome;rw[List.length_append];have:(wHead r).length=5:=rfl;omega
theorem wMore_len {r:RunD} (h:ByteR r) (j:Nat):(wMore r j).length≤17001000:=by
 have h1:=wSome_len h r.known.length;rw[wSome_end (Nat.le_refl _)] at h1;have h2:(r.known.take j).length≤r.known.length:=List.length_take_le' _ _;have:=h.few;unfold wMore at h1⊢;rw[List.take_zero,List.map_nil,List.append_nil] at h1;rw[List.length_append,List.length_map];omega
theorem BytO.five (w:World) (a b c d e:UInt8) {x1 x2 x3 x4 x5:Int} (h1:x1=(a.toNat:Int)) (h2:x2=(b.toNat:Int)) (h3:x3=(c.toNat:Int)) (h4:x4=(d.toNat:Int)) (h5:x5=(e.toNat:Int)):BytO w.heap.size (w.alloc (.cells #[.int .u8 x1,.int .u8 x2,.int .u8 x3,.int .u8 x4,.int .u8 x5] 5)) (.slice (some ⟨w.heap.size,0,none⟩) 5 5) [a,b,c,d,e]:=by
 subst h1 h2 h3 h4 h5;exact⟨rfl,Or.inr ⟨w.heap.size,5,_,rfl,Nat.le_refl _,heap_alloc_new w _,Nat.le_refl _,by simp[maxLen],rfl,rfl⟩⟩
theorem wrap8 (n:Nat):IntKind.u8.wrap (n:Int)=(((UInt8.ofNat (n%256)).toNat:Nat):Int):=by
 rw[ofNat_toNat (Nat.mod_lt _ (by omega)),IntKind.wrap_u8];omega
theorem BytO.low {lo lo':Nat} {w:World} {v:Value} {l:Bs} (h:BytO lo w v l) (hl:lo'≤lo):BytO lo' w v l:=by
 refine⟨h.1,?_⟩;rcases h.2 with e|⟨g,cap,cur,e,hb,r⟩
 ·exact Or.inl e
 ·exact Or.inr ⟨g,cap,cur,e,Nat.le_trans hl hb,r⟩
set_option maxRecDepth 100000 in
set_option maxHeartbeats 2000000 in
theorem writtenC (K N : List FactB) (lv ro : Nat) (dn : Bool) (kv nv : Value) (w : World) (hk : Facts w kv K) (hn : Facts w nv N) (hr : ByteR ⟨K, N, lv, ro, dn⟩) (hN : Rises N) :
    Calls Tryz.prog 72 #[.agg #[kv, nv, .int .i64 lv, .int .i64 ro, .bool dn]] w fun e w' => ∃ v, e = .returned v ∧ BytO w.heap.size w' v (wRun ⟨K, N, lv, ro, dn⟩) ∧ Below w.heap.size w w' := by
  obtain ⟨ka, kc, rfl⟩ := sliceFacts hk
  obtain ⟨na, nc, rfl⟩ := sliceFacts hn
  obtain ⟨w1, hw1⟩ : ∃ w1, w1 = w.alloc (.cells #[.slice ka K.length kc, .slice na N.length nc, .int .i64 lv, .int .i64 ro, .bool dn] 47) := ⟨_, rfl⟩
  have hL1 : Later w w1 := by rw [hw1]; exact (Later.refl w).alloc _
  have hr1 : w1.heap[w.heap.size]? = some (.cells #[.slice ka K.length kc, .slice na N.length nc, .int .i64 lv, .int .i64 ro, .bool dn] 47 (0, 0)) := by rw [hw1]; exact heap_alloc_new w _
  have h1 : lv < 256 := by have := hr.lev; simp only at this; omega
  have h2 : ro < 65536 := by have := hr.rou; simp only at this; omega
  have h3 : K.length < 256 := hr.few
  have HK := hide hk
  have HN := hide hn
  have HRr := hide hr
  have HRi := hide hN
  have HW1 := hide hw1
  have HL1 := hide hL1
  have HCell : Hid (∀ w', Later w1 w' → w'.heap[w.heap.size]? = some (.cells #[.slice ka K.length kc, .slice na N.length nc, .int .i64 lv, .int .i64 ro, .bool dn] 47 (0, 0))) := fun w' h => (h.block (Array.getElem?_eq_some_iff.1 hr1).1).trans hr1
  have hlt1 := (Array.getElem?_eq_some_iff.1 hr1).1
  clear hk hn hr hw1 hL1 hr1 hN
  go_enter Tryz.func72, Tryz.ntmps72
  go_wp2_with (first | (rw [← HW1.out]) | fail)
  refine wp_region_held_drew (S := fun w' => Later w1 w') (by kernel_rfl) (Later.refl w1).drew (fun hHeld => ?_)
  refine take_yes (i := 0) (d := some 8) (v := ?_) rfl rfl hHeld ?_ ?_; rotate_left; focus intro w hSw; (try dsimp only at hSw); obtain ⟨q0, q1, q2, q3, q4, _, _⟩ := row5 (HCell.out _ hSw); go_simp; try with_reducible rfl
  simp only [aput, aset, aze, asu]
  refine take_yes (i := 1) (d := some 9) (v := ?_) rfl rfl hHeld ?_ ?_; rotate_left; focus intro w hSw; (try dsimp only at hSw); obtain ⟨q0, q1, q2, q3, q4, _, _⟩ := row5 (HCell.out _ hSw); go_simp; try with_reducible rfl
  simp only [aput, aset, aze, asu]
  refine take_yes (i := 2) (d := some 10) (v := ?_) rfl rfl hHeld ?_ ?_; rotate_left; focus intro w hSw; (try dsimp only at hSw); obtain ⟨q0, q1, q2, q3, q4, _, _⟩ := row5 (HCell.out _ hSw); go_simp; try with_reducible rfl
  simp only [aput, aset, aze, asu]
  refine take_yes (i := 3) (d := some 11) (v := ?_) rfl rfl hHeld ?_ ?_; rotate_left; focus intro w hSw; (try dsimp only at hSw); obtain ⟨q0, q1, q2, q3, q4, _, _⟩ := row5 (HCell.out _ hSw); go_simp; try with_reducible rfl
  simp only [aput, aset, aze, asu]
  refine take_yes (i := 4) (d := some 12) (v := ?_) rfl rfl hHeld ?_ ?_; rotate_left; focus intro w hSw; (try dsimp only at hSw); obtain ⟨q0, q1, q2, q3, q4, _, _⟩ := row5 (HCell.out _ hSw); go_simp; try with_reducible rfl
  simp only [aput, aset, aze, asu]
  refine take_yes (i := 5) (d := some 13) (v := ?_) rfl rfl hHeld ?_ ?_; rotate_left; focus intro w hSw; (try dsimp only at hSw); obtain ⟨q0, q1, q2, q3, q4, _, _⟩ := row5 (HCell.out _ hSw); go_simp; try with_reducible rfl
  simp only [aput, aset, aze, asu]
  refine take_yes (i := 6) (d := some 14) (v := ?_) rfl rfl hHeld ?_ ?_; rotate_left; focus intro w hSw; (try dsimp only at hSw); obtain ⟨q0, q1, q2, q3, q4, _, _⟩ := row5 (HCell.out _ hSw); go_simp; try with_reducible rfl
  simp only [aput, aset, aze, asu]
  refine take_yes (i := 7) (d := some 15) (v := ?_) rfl rfl hHeld ?_ ?_; rotate_left; focus intro w hSw; (try dsimp only at hSw); obtain ⟨q0, q1, q2, q3, q4, _, _⟩ := row5 (HCell.out _ hSw); go_simp; try with_reducible rfl
  simp only [aput, aset, aze, asu]
  refine take_yes (i := 8) (d := some 16) (v := ?_) rfl rfl hHeld ?_ ?_; rotate_left; focus intro w hSw; (try dsimp only at hSw); obtain ⟨q0, q1, q2, q3, q4, _, _⟩ := row5 (HCell.out _ hSw); go_simp; try with_reducible rfl
  simp only [aput, aset, aze, asu]
  refine take_yes (i := 9) (d := some 17) (v := ?_) rfl rfl hHeld ?_ ?_; rotate_left; focus intro w hSw; (try dsimp only at hSw); obtain ⟨q0, q1, q2, q3, q4, _, _⟩ := row5 (HCell.out _ hSw); go_simp; try with_reducible rfl
  simp only [aput, aset, aze, asu]
  refine take_yes (i := 10) (d := some 18) (v := ?_) rfl rfl hHeld ?_ ?_; rotate_left; focus intro w hSw; (try dsimp only at hSw); obtain ⟨q0, q1, q2, q3, q4, _, _⟩ := row5 (HCell.out _ hSw); go_simp; try with_reducible rfl
  simp only [aput, aset, aze, asu]
  refine take_yes (i := 11) (d := some 19) (v := ?_) rfl rfl hHeld ?_ ?_; rotate_left; focus intro w hSw; (try dsimp only at hSw); obtain ⟨q0, q1, q2, q3, q4, _, _⟩ := row5 (HCell.out _ hSw); go_simp; try with_reducible rfl
  simp only [aput, aset, aze, asu]
  refine take_yes (i := 13) (d := some 21) (v := ?_) rfl rfl hHeld ?_ ?_; rotate_left; focus intro w hSw; (try dsimp only at hSw); obtain ⟨q0, q1, q2, q3, q4, _, _⟩ := row5 (HCell.out _ hSw); go_simp; try with_reducible rfl
  simp only [aput, aset, aze, asu]
  refine take_yes (i := 14) (d := some 22) (v := ?_) rfl rfl hHeld ?_ ?_; rotate_left; focus intro w hSw; (try dsimp only at hSw); obtain ⟨q0, q1, q2, q3, q4, _, _⟩ := row5 (HCell.out _ hSw); go_simp; try with_reducible rfl
  simp only [aput, aset, aze, asu]
  refine take_yes (i := 15) (d := some 23) (v := ?_) rfl rfl hHeld ?_ ?_; rotate_left; focus intro w hSw; (try dsimp only at hSw); obtain ⟨q0, q1, q2, q3, q4, _, _⟩ := row5 (HCell.out _ hSw); go_simp; try with_reducible rfl
  simp only [aput, aset, aze, asu]
  refine take_yes (i := 16) (d := some 24) (v := ?_) rfl rfl hHeld ?_ ?_; rotate_left; focus intro w hSw; (try dsimp only at hSw); obtain ⟨q0, q1, q2, q3, q4, _, _⟩ := row5 (HCell.out _ hSw); go_simp; try with_reducible rfl
  simp only [aput, aset, aze, asu]
  refine wpAnyH_ready (rs := [12]) (by kernel_rfl) (by simp) ?_
  refine AllReadyH.cons rfl (fun K hK => ?_) AllReadyH.nil
  go_simp
  have q4 := (row5 (HCell.out _ hHeld)).2.2.2.2.1
  refine (flagC dn _).mono ?_
  rintro e wx ⟨rfl, rfl⟩
  refine hK.out _ _ hHeld (fun hHeld => ?_)
  clear hK K q4
  refine wpAnyH_ready (rs := [17]) (by kernel_rfl) (by simp) ?_
  refine AllReadyH.cons rfl (fun K' hK => ?_) AllReadyH.nil
  go_simp
  obtain ⟨w2, hw2⟩ : ∃ w2, w2 = (w1.alloc (.cells #[.int .u8 (IntKind.u8.wrap (lv : Int)), .int .u8 (IntKind.u8.wrap ((ro : Int) / 256)), .int .u8 (IntKind.u8.wrap (ro : Int)), .int .u8 ((flagB dn).toNat : Int), .int .u8 (IntKind.u8.wrap (K.length : Int))] 5)).drew := ⟨_, rfl⟩
  have hL2 : Later w1 w2 := by rw [hw2]; exact ((Later.refl w1).alloc _).drew
  refine hK.out _ _ (by rw [← hw2]; exact hL2) (fun hHeld => ?_)
  rw [← hw2]
  have hO2 : BytO w.heap.size w2 (.slice (some ⟨w1.heap.size, 0, none⟩) 5 5) (wSome ⟨K, N, lv, ro, dn⟩ 0) := by
    have := BytO.five w1 (UInt8.ofNat lv) (UInt8.ofNat (ro / 256)) (UInt8.ofNat (ro % 256)) (flagB dn) (UInt8.ofNat K.length) (x1 := IntKind.u8.wrap (lv : Int)) (x2 := IntKind.u8.wrap ((ro : Int) / 256)) (x3 := IntKind.u8.wrap (ro : Int)) (x4 := ((flagB dn).toNat : Int)) (x5 := IntKind.u8.wrap (K.length : Int))
      (by rw [wrap8, Nat.mod_eq_of_lt h1]) (by have e : ((ro : Int) / 256) = ((ro / 256 : Nat) : Int) := by omega
                                               rw [e, wrap8, Nat.mod_eq_of_lt (by omega)]) (by rw [wrap8]) rfl (by rw [wrap8, Nat.mod_eq_of_lt h3])
    have this := this.later (Later.refl _).drew
    rw [← hw2] at this
    have h4 : BytO w1.heap.size w2 (.slice (some ⟨w1.heap.size, 0, none⟩) 5 5) (wSome ⟨K, N, lv, ro, dn⟩ 0) := by
      unfold wSome wHead
      simpa using this
    exact h4.low (by omega)
  have HG2 : Hid (Below w.heap.size w w2) := HL1.out.below.trans (hL2.below.mono HL1.out.size)
  have HO2 := hide hO2
  have hz12 : w1.heap.size < w2.heap.size := by rw [hw2]; simp
  have hb2 : ∀ k, (Value.slice (some ⟨w1.heap.size, 0, none⟩) 5 5).ownBlock = some k → w.heap.size < k := fun k e => by
    simp [Value.ownBlock] at e; omega
  have HB2 := hide hb2
  have HL2 := hide hL2
  have HR2 := hide (HCell.out _ hL2)
  clear hK K' hHeld hw2 hL2 hO2 hb2 HCell HL1 HW1
  generalize IntKind.u8.wrap (lv : Int) = x1 at *
  generalize IntKind.u8.wrap ((ro : Int) / 256) = x2 at *
  generalize IntKind.u8.wrap (ro : Int) = x3 at *
  generalize IntKind.u8.wrap (K.length : Int) = x5 at *
  refine wpAnyH_ready (rs := [18]) (by kernel_rfl) (by simp) ?_
  refine AllReadyH.cons rfl (fun K' hK => ?_) AllReadyH.nil
  go_simp
  refine hK.out _ _ HL2.out (fun hHeld => ?_)
  clear hK K' hHeld
  refine wpAnyH_done (by kernel_rfl) ?_ _
  obtain ⟨q0, q1, q2, q3, q4, _, _⟩ := row5 HR2.out
  have hw2 : w.heap.size < w2.heap.size := by omega
  clear HL2
  generalize hRr : (⟨K, N, lv, ro, dn⟩ : RunD) = rr at *
  have ekn : rr.known = K := by rw [← hRr]
  have efr : rr.fresh = N := by rw [← hRr]
  have HEk := hide ekn
  have HEr := hide hRr
  have HEf := hide efr
  clear ekn efr hRr
  go_wp2
  clear q0 q1 q2 q3 q4
  go_loopg [3, 29] K.length (fun g o i wr => ∃ j : Nat, j + g = K.length ∧ i = .int .i64 j ∧ w.heap.size < wr.heap.size ∧ Hid (BytO w.heap.size wr o (wSome rr j)) ∧ Hid (wr.heap[w.heap.size]? = some (.cells #[.slice ka K.length kc, .slice na N.length nc, .int .i64 lv, .int .i64 ro, .bool dn] 47 (0, 0))) ∧ Hid (Below w.heap.size w wr) ∧ Hid (∀ k, o.ownBlock = some k → w.heap.size < k))
  case atStart => exact ⟨0, by omega, rfl, hw2, HO2, HR2, HG2, HB2⟩
  case round =>
    clear HO2 HR2 HG2 HB2
    obtain ⟨j, hj, rfl, hwr, HO, HRw, HBw, HOb⟩ := hrel
    obtain ⟨oa, on, oc, rfl⟩ := HO.out.slice3
    by_cases hlt : j < K.length
    · obtain ⟨f, hf⟩ : ∃ f, K[j]? = some f := ⟨_, List.getElem?_eq_getElem hlt⟩
      obtain ⟨_, a', c', e', hc⟩ := HK.out
      simp only [Value.slice.injEq, true_and] at e'
      obtain ⟨rfl, rfl⟩ := e'
      obtain ⟨b, off, rfl, hb, hc⟩ := hc (fun e => by rw [e] at hf; simp at hf)
      obtain ⟨c0, sv, c1, hsv⟩ := hc j hlt
      have ef : K.getD j noFact = f := by rw [List.getD_eq_getElem?_getD, hf]; rfl
      rw [ef] at c0 hsv
      have d0 : wr.cell? ⟨b, off + j * 2, none⟩ = some (.string f.1) := by rw [HBw.out.cell (p := ⟨b, off + j * 2, none⟩) hb]; exact c0
      have d1 : wr.cell? ⟨b, off + j * 2 + 1, none⟩ = some sv := by rw [HBw.out.cell (p := ⟨b, off + j * 2 + 1, none⟩) hb]; exact c1
      obtain ⟨wf, hwf⟩ : ∃ wf, wf = wr.alloc (.cells #[.string f.1, sv] 27) := ⟨_, rfl⟩
      have hLf : Later wr wf := by rw [hwf]; exact (Later.refl wr).alloc _
      have hRf : wf.heap[wr.heap.size]? = some (.cells #[.string f.1, sv] 27 (0, 0)) := by rw [hwf]; exact heap_alloc_new wr _
      have hrk : rr.known[j]? = some f := by rw [HEk.out]; exact hf
      have hby : ByteF f := HRr.out.facts f (List.mem_of_getElem? hrk)
      have hsl := wSome_len HRr.out j
      have HC := hide (addFactC w (.slice oa on oc) sv (wSome rr j) f wf (HO.out.later hLf) hsv (HBw.out.trans (hLf.below.mono (by omega))) hby (by omega))
      obtain ⟨sa, sc, rfl⟩ := sliceStr hsv
      obtain ⟨e0, e1, _, _, _⟩ := row2 hRf
      have e1' : wf.cell? ⟨wr.heap.size, 0 + 1, none⟩ = some (.slice sa f.2.length sc) := e1
      have HSt := hide (wSome_step hrk)
      have HWf := hide hwf
      have HLf := hide hLf
      clear hc c0 c1 hsv hwf hLf hRf hf hrk hby hsl ef
      go_wp2_with (first | (rw [← HWf.out]) | fail)
      refine HC.out.mono ?_
      rintro e w5 ⟨v5, rfl, hO5, hG5⟩
      obtain ⟨a5, n5, c5, rfl⟩ := hO5.slice3
      have hzf := HLf.out.size
      have hz5 := hG5.size
      have HO5 : Hid (BytO w.heap.size w5 (.slice a5 n5 c5) (wSome rr (j + 1))) := by show BytO _ _ _ _; rw [HSt.out]; exact hO5
      have HR5 : Hid (w5.heap[w.heap.size]? = _) := (hG5.block _ (by omega) (fun e => by have := HOb.out _ e; omega)).trans ((HLf.out.block hwr).trans HRw.out)
      have HB5 := hide (HBw.out.trans ((HLf.out.below.mono (by omega : w.heap.size ≤ wr.heap.size)).trans (hG5.below (by omega) fun k e => by have := HOb.out k e; omega)))
      have HOb5 : Hid (∀ k, (Value.slice a5 n5 c5).ownBlock = some k → w.heap.size < k) := fun k e => by
        rcases hG5.own k e with e | e
        · exact HOb.out k e
        · omega
      clear hO5 hG5 HC HO HRw HBw HOb HSt HWf HLf d0 d1 e0 e1 e1'
      go_wp2
      go_roundg (K.length - (j + 1))
      case measure => omega
      case rel => exact ⟨j + 1, by omega, by go_num, by omega, HO5, HR5, HB5, HOb5⟩
    · have HO1 : Hid (BytO w.heap.size wr (.slice oa on oc) (wMore rr 0)) := by
        have := HO.out
        rw [wSome_end (by rw [HEk.out]; omega)] at this
        exact this
      obtain ⟨q0, q1, q2, q3, q4, _, _⟩ := row5 HRw.out
      clear HO
      go_wp2
      clear q0 q1 q2 q3 q4 hlt hj
      go_loopg [3, 40] K.length (fun g o i wr => ∃ j : Nat, j + g = K.length ∧ i = .int .i64 j ∧ w.heap.size < wr.heap.size ∧ Hid (BytO w.heap.size wr o (wMore rr j)) ∧ Hid (wr.heap[w.heap.size]? = some (.cells #[.slice ka K.length kc, .slice na N.length nc, .int .i64 lv, .int .i64 ro, .bool dn] 47 (0, 0))) ∧ Hid (Below w.heap.size w wr) ∧ Hid (∀ k, o.ownBlock = some k → w.heap.size < k))
      case atStart => exact ⟨0, by omega, rfl, hwr, HO1, HRw, HBw, HOb⟩
      case round =>
        clear HO1 HRw HBw HOb
        obtain ⟨j, hj, rfl, hwr, HO, HRw, HBw, HOb⟩ := hrel
        obtain ⟨oa, on, oc, rfl⟩ := HO.out.slice3
        by_cases hlt : j < K.length
        · obtain ⟨f, hf⟩ : ∃ f, K[j]? = some f := ⟨_, List.getElem?_eq_getElem hlt⟩
          obtain ⟨_, a', c', e', hc⟩ := HK.out
          simp only [Value.slice.injEq, true_and] at e'
          obtain ⟨rfl, rfl⟩ := e'
          obtain ⟨b, off, rfl, hb, hc⟩ := hc (fun e => by rw [e] at hf; simp at hf)
          obtain ⟨c0, sv, c1, hsv⟩ := hc j hlt
          have ef : K.getD j noFact = f := by rw [List.getD_eq_getElem?_getD, hf]; rfl
          rw [ef] at c0 hsv
          have d0 : wr.cell? ⟨b, off + j * 2, none⟩ = some (.string f.1) := by rw [HBw.out.cell (p := ⟨b, off + j * 2, none⟩) hb]; exact c0
          have d1 : wr.cell? ⟨b, off + j * 2 + 1, none⟩ = some sv := by rw [HBw.out.cell (p := ⟨b, off + j * 2 + 1, none⟩) hb]; exact c1
          obtain ⟨wf, hwf⟩ : ∃ wf, wf = wr.alloc (.cells #[.string f.1, sv] 27) := ⟨_, rfl⟩
          have hLf : Later wr wf := by rw [hwf]; exact (Later.refl wr).alloc _
          have hRf : wf.heap[wr.heap.size]? = some (.cells #[.string f.1, sv] 27 (0, 0)) := by rw [hwf]; exact heap_alloc_new wr _
          have hrk : rr.known[j]? = some f := by rw [HEk.out]; exact hf
          have hsl := wMore_len HRr.out j
          have hBf : Below w.heap.size w wf := HBw.out.trans (hLf.below.mono (by omega))
          have hsvf : Strs wf sv f.2 := by
            refine hsv.kept' hBf.size fun k hk _ => hBf.block k hk
          have hin := inC (.slice na N.length nc) (.agg #[.string f.1, sv]) N f wf (HN.out.below hBf) ⟨sv, rfl, hsvf⟩ HRi.out
          rw [in_eq] at hin
          have HIn := hide hin
          obtain ⟨sa, sc, rfl⟩ := sliceStr hsv
          obtain ⟨e0, e1, _, _, _⟩ := row2 hRf
          have e1' : wf.cell? ⟨wr.heap.size, 0 + 1, none⟩ = some (.slice sa f.2.length sc) := e1
          have hst := wMore_step hrk
          rw [HEf.out] at hst
          have HSt := hide hst
          have HWf := hide hwf
          have HLf := hide hLf
          have HRwf := (hLf.block hwr).trans HRw.out
          obtain ⟨q0, q1, q2, q3, q4, _, _⟩ := row5 HRwf
          clear hc c0 c1 hsv hwf hLf hRf hf hrk ef hsvf hin hst HRwf hBf
          generalize inB N f = bb at *
          go_wp2_with (first | (rw [← HWf.out]) | fail)
          refine HIn.out.mono ?_
          rintro e w5 ⟨rfl, hL5⟩
          have HFl := hide (flagC bb w5)
          have hO5 := HO.out.later (HLf.out.trans hL5)
          have hzf := HLf.out.size
          have hz5 := hL5.size
          obtain ⟨v6, w6, hrun, hO6, hG6⟩ := appendByte hO5 (x := flagB bb) (n := ((flagB bb).toNat : Int)) rfl (by omega) (by omega)
          obtain ⟨a6, n6, c6, rfl⟩ := hO6.slice3
          have hz6 := hG6.size
          have HO6 : Hid (BytO w.heap.size w6 (.slice a6 n6 c6) (wMore rr (j + 1))) := by show BytO _ _ _ _; rw [HSt.out]; exact hO6
          have hL05 := HLf.out.trans hL5
          have HR6 : Hid (w6.heap[w.heap.size]? = _) := (hG6.block _ (by omega) (fun e => by have := HOb.out _ e; omega)).trans ((hL05.block hwr).trans HRw.out)
          have HB6 := hide (HBw.out.trans ((hL05.below.mono (by omega : w.heap.size ≤ wr.heap.size)).trans (hG6.below (by omega) fun k e => by have := HOb.out k e; omega)))
          have HOb6 : Hid (∀ k, (Value.slice a6 n6 c6).ownBlock = some k → w.heap.size < k) := fun k e => by
            rcases hG6.own k e with e | e
            · exact HOb.out k e
            · omega
          have HRn := hide hrun
          clear hO5 hO6 hG6 hL5 hrun HIn HO HRw HBw HOb HSt HWf HLf d0 d1 e0 e1 e1' q0 q1 q2 q3 q4 hsl hL05
          generalize flagB bb = fb at *
          go_wp2_with fail
          refine HFl.out.mono ?_
          rintro e w7 ⟨rfl, rfl⟩
          go_wp2_with (at_builtin; refine wpList_append_run rfl (.tmp 44) (.tmp 50) 48 rfl _ _ _ _ rfl rfl HRn.out ?_)
          go_roundg (K.length - (j + 1))
          case measure => omega
          case rel => exact ⟨j + 1, by omega, by go_num, by omega, HO6, HR6, HB6, HOb6⟩
        · have HO2 : Hid (BytO w.heap.size wr (.slice oa on oc) (wRun rr)) := by
            have := HO.out
            rw [wMore_end (by rw [HEk.out]; omega)] at this
            exact this
          go_wp2
          go_ret
          exact ⟨.slice oa on oc, rfl, by rw [HEr.out]; exact HO2.out, HBw.out⟩
end Go.Proofs.YtafmbokfkbccaaaGreatDoor
namespace Go.Proofs.YtafmbokfkbccaaaGreatDoor
open Go.RowKit Go.Sort
def byteK:Kind UInt8 where
 size:=1
 is:=fun _ _ c t=>c=[.int .u8 (t.toNat:Int)]
 len:=fun h=>by subst h;rfl
 one:=fun h u hu=>by subst h;simp at hu;subst hu;rfl
 kept:=fun h _ _=>h
 mono:=fun h _=>h
def LongB (B:Nat→Prop) (w:World) (v:Value) (l:Bs):Prop:=
 (l.length≤281474976710656∧lenOk v)∧∃a cap,v=.slice a l.length cap∧(l≠[]→∃b off,a=some ⟨b,off,none⟩∧B b∧b<w.heap.size∧
  ∀i x,l[i]?=some x→∃c,byteK.is B w c x∧∀j u,c[j]?=some u→w.cell? ⟨b,off+i*byteK.size+j,none⟩=some u)
theorem LongB.of {B:Nat→Prop} {w:World} {v:Value} {l:Bs} (h:byteK.sl B w v l):LongB B w v l:=⟨⟨by have:=h.1.1;omega,h.1.2⟩,h.2⟩
theorem LongB.nil (B:Nat→Prop) (w:World) (a:Option Addr) (cap:Nat):LongB B w (.slice a 0 cap) []:=.of (byteK.sl_nil B w a cap)
theorem LongB.slice {B:Nat→Prop} {w:World} {v:Value} {l:Bs} (h:LongB B w v l):∃a cap,v=.slice a l.length cap:=by
 obtain⟨_,a,cap,rfl,_⟩:=h;exact⟨a,cap,rfl⟩
theorem LongB.kept {B:Nat→Prop} {w w':World} {v:Value} {l:Bs} (h:LongB B w v l) (hs:w.heap.size≤w'.heap.size) (hk:∀k,k<w.heap.size→B k→w'.heap[k]?=w.heap[k]?):LongB B w' v l:=by
 obtain⟨h0,a,cap,rfl,h1⟩:=h;refine⟨h0,a,cap,rfl,fun hl=> ?_⟩;obtain⟨b,off,rfl,hB,hb,hc⟩:=h1 hl;refine⟨b,off,rfl,hB,Nat.lt_of_lt_of_le hb hs,fun i x hx=> ?_⟩;obtain⟨c,c1,c2⟩:=hc i x hx;exact⟨c,c1,fun j u hu=>by rw[World.cell?_of_block (w:=w) (hk b hb hB)];exact c2 j u hu⟩
theorem LongB.mono {B B':Nat→Prop} {w:World} {v:Value} {l:Bs} (h:LongB B w v l) (hk:∀k,k<w.heap.size→B k→B' k):LongB B' w v l:=by
 obtain⟨h0,a,cap,rfl,h1⟩:=h;refine⟨h0,a,cap,rfl,fun hl=> ?_⟩;obtain⟨b,off,rfl,hB,hb,hc⟩:=h1 hl;exact⟨b,off,rfl,hk b hb hB,hb,hc⟩
theorem LongB.here {B:Nat→Prop} {w:World} {a:Option Addr} {n cap i:Nat} {l:Bs} {x:UInt8} (h:LongB B w (.slice a n cap) l) (hi:l[i]?=some x):
  ∃b off c,a=some ⟨b,off,none⟩∧b<w.heap.size∧byteK.is B w c x∧∀j u,c[j]?=some u→w.cell? ⟨b,off+i*byteK.size+j,none⟩=some u:=by
 obtain⟨_,a',cap',e,h1⟩:=h;simp only[Value.slice.injEq] at e;obtain⟨rfl,_,_⟩:=e;obtain⟨b,off,rfl,_,hb,hc⟩:=h1 (by intro e;rw[e] at hi;simp at hi);obtain⟨c,c1,c2⟩:=hc i x hi;exact⟨b,off,c,rfl,hb,c1,c2⟩
theorem LongB.later {w w':World} {v:Value} {l:Bs} (h:LongB Anyw w v l) (k:Later w w'):LongB Anyw w' v l:=h.kept k.size fun _ hi _=>k.block hi
theorem LongB.below {w w':World} {v:Value} {l:Bs} (h:LongB Anyw w v l) (k:Below w.heap.size w w'):LongB Anyw w' v l:=h.kept k.size fun i hi _=>k.block i hi
def RdB (w:World) (p q:Nat) (s:RdS):Prop:=∃v,w.heap[p]?=some (.cells #[v,.bool s.2] 206 (0,0))∧LongB (fun k=>k≠p∧k<q) w v s.1
theorem RdB.lt {w:World} {p q:Nat} {s:RdS} (h:RdB w p q s):p<w.heap.size:=by
 obtain⟨v,h1,_⟩:=h;exact(Array.getElem?_eq_some_iff.1 h1).1
theorem RdB.below {w w':World} {p q:Nat} {s:RdS} (h:RdB w p q s) (k:Below w.heap.size w w'):RdB w' p q s:=by
 have hp:=h.lt;obtain⟨v,h1,h2⟩:=h;exact⟨v,by rw[k.block p hp];exact h1,LongB.kept h2 k.size fun i hi _=>k.block i hi⟩
theorem RdB.stay {w w':World} {p q:Nat} {s:RdS} (h:RdB w p q s) (hs:w.heap.size≤w'.heap.size) (hp:p<q) (hk:∀k,k<w.heap.size→k<q→w'.heap[k]?=w.heap[k]?):RdB w' p q s:=by
 have hl:=h.lt;obtain⟨v,h1,h2⟩:=h;exact⟨v,by rw[hk p hl hp];exact h1,LongB.kept h2 hs fun i hi hB=>hk i hi hB.2⟩
theorem rowB {w:World} {R:Nat} {u0 u1:Value} {t:TypeId} (h:w.heap[R]?=some (.cells #[u0,u1] t (0,0))):w.cell? ⟨R,0,none⟩=some u0∧w.cell? ⟨R,1,none⟩=some u1∧w.frozen? ⟨R,0,none⟩=false∧w.frozen? ⟨R,1,none⟩=false∧R<w.heap.size:=
 ⟨by rw[cell_of_row _ _ _ _ _ _ h];rfl,by rw[cell_of_row _ _ _ _ _ _ h];rfl,by simp[World.frozen?,h],by simp[World.frozen?,h],(Array.getElem?_eq_some_iff.1 h).1⟩
theorem set_row {w:World} {g j:Nat} {cs:Array Value} {t:TypeId} {fr:Nat×Nat} (h:w.heap[g]?=some (.cells cs t fr)) (u:Value):(w.setCell ⟨g,j,none⟩ u).heap[g]?=some (.cells (cs.setIfInBounds j u) t fr):=by
 simp[World.setCell,Array.getElem?_modify,h]
theorem slice_take {v:Value} {w:World} {B:Nat→Prop} {l:Bs} (h:LongB B w v l) {n:Nat} (hn:n≤l.length):
  ∃u x,(∀w',(Instr.slice 48 v none (some (.int .i64 (n:Int))) none).run Tryz.prog w'=.ok u w')∧(∀w',(Instr.slice 48 v (some (.int .i64 (n:Int))) none none).run Tryz.prog w'=.ok x w')∧LongB B w u (l.take n)∧LongB B w x (l.drop n):=by
 obtain⟨⟨h0,h1⟩,a,cap,rfl,h2⟩:=h;have h1:l.length≤cap:=h1;have ht:Tryz.prog.underlying 48=some (.slice (Tryz.prog.elem 48)):=by kernel_rfl
 have hz:∀w',(Go.sizeOf (Tryz.prog.elem 48)).run Tryz.prog w'=.ok 1 w':=fun w'=>by
  have e:Tryz.prog.elem 48=5:=by kernel_rfl
  obtain⟨i,i1,i2,i3,i4⟩:=infoU8;rw[e];simp[Go.sizeOf,typeInfo,i1,i3]
 refine⟨sliced a 0 n cap 1,sliced a n l.length cap 1,fun w'=> ?_,fun w'=> ?_,?_,?_⟩
 ·rw[run_slice_h w' 48 a l.length cap ht .i64 (n:Int) (by omega) (by omega),hz];simp[Result.andThen]
 ·rw[run_slice_l w' 48 a l.length cap ht .i64 (n:Int) (by omega) (by omega),hz];simp[Result.andThen]
 ·have hle:(l.take n).length=n:=by rw[List.length_take];omega
  refine⟨⟨by omega,by show n-0≤cap-0;omega⟩,_,_,by unfold sliced;rw[hle];rfl,fun hne=> ?_⟩;have hln:l≠[]:=fun e=>hne (by rw[e];simp);obtain⟨b,off,rfl,hB,hb,hc⟩:=h2 hln;refine⟨b,off,by simp[Addr.add],hB,hb,fun i x hi=> ?_⟩;have hi':i<n:=by have:=(List.getElem?_eq_some_iff.1 hi).1;omega
  rw[List.getElem?_take_of_lt hi'] at hi;exact hc i x hi
 ·refine⟨⟨by rw[List.length_drop];omega,by show l.length-n≤cap-n;omega⟩,_,_,by unfold sliced;rw[List.length_drop],fun hne=> ?_⟩;have hlt:n<l.length:=by
   refine Nat.lt_of_not_le fun h=>hne (List.drop_eq_nil_of_le h)
  have hln:l≠[]:=fun e=>by rw[e] at hlt;simp at hlt
  obtain⟨b,off,rfl,hB,hb,hc⟩:=h2 hln;refine⟨b,off+n,by rw[if_neg (by omega)];simp[Addr.add],hB,hb,fun i x hi=> ?_⟩;rw[List.getElem?_drop] at hi;obtain⟨c,c1,c2⟩:=hc (n+i) x hi;refine⟨c,c1,fun j u hu=> ?_⟩;have:=c2 j u hu;have e:off+n+i*byteK.size+j=off+(n+i)*byteK.size+j:=by show off+n+i*1+j=off+(n+i)*1+j;omega
  rw[e];exact this
theorem Tn.two (w:World) (p:Nat) (x y:Value):Tn p w (w.setCell ⟨p,0,none⟩ x)∧Tn p w ((w.setCell ⟨p,0,none⟩ x).setCell ⟨p,1,none⟩ y):=
 ⟨(Tn.refl p w).setCell (Or.inl rfl) _,((Tn.refl p w).setCell (Or.inl rfl) _).setCell (Or.inl rfl) _⟩
set_option maxRecDepth 100000 in
set_option maxHeartbeats 1000000 in
theorem takeC (p q:Nat) (s:RdS) (n:Nat) (w:World) (h:RdB w p q s):
  Calls Tryz.prog 258 #[.pointer (some ⟨p,0,none⟩),.int .i64 (n:Int)] w fun e w'=>∃v,e=.returned v∧LongB (fun k=>k≠p∧k<q) w' v (rTake n s).1∧RdB w' p q (rTake n s).2∧Tn p w w':=by
 obtain⟨l,am⟩:=s;obtain⟨v,hr,hv⟩:=h;dsimp only at hr hv;obtain⟨c0,c1,f0,f1,hlt⟩:=rowB hr;have HR:=hide hr;have HV:=hide hv
 by_cases hc:l.length<n
 ·have HX:Hid (rTake n (l,am)=([],([],true))):=by show _=_;unfold rTake;rw[if_pos hc]
  obtain⟨a,cap,rfl⟩:=LongB.slice hv;have hll:=hv.1.1;clear hr hv;generalize l.length=ln at*
  go_enter Tryz.func258,Tryz.ntmps258
  go_wp2;go_ret;rw[HX.out];refine⟨_,rfl,LongB.nil _ _ _ _,⟨.slice none 0 0,?_,LongB.nil _ _ _ _⟩,(Tn.two _ p _ _).2⟩;exact set_row (j:=1) (set_row (j:=0) HR.out _) _
 ·obtain⟨u,x,s1,s2,hu,hx⟩:=slice_take hv (Nat.le_of_not_lt hc);have HX:Hid (rTake n (l,am)=(l.take n,(l.drop n,am))):=by show _=_;unfold rTake;rw[if_neg hc]
  obtain⟨a,cap,rfl⟩:=LongB.slice hv;obtain⟨ua,un,uc,rfl⟩:∃a n c,u=.slice a n c:=by obtain⟨a,c,e⟩:=LongB.slice hu;exact⟨a,_,c,e⟩
  obtain⟨xa,xn,xc,rfl⟩:∃a n c,x=.slice a n c:=by obtain⟨a,c,e⟩:=LongB.slice hx;exact⟨a,_,c,e⟩
  have HU:=hide hu;have HXx:=hide hx;have hll:=hv.1.1;clear hr hv hu hx;generalize l.length=ln at*
  go_enter Tryz.func258,Tryz.ntmps258
  go_wp2;go_ret;rw[HX.out];have hT:=(Tn.two w p (.slice xa xn xc) (.slice xa xn xc)).1;refine⟨_,rfl,LongB.kept HU.out hT.size fun i hi hB=>hT.block i hi hB.1,⟨_,set_row (j:=0) HR.out _,LongB.kept HXx.out hT.size fun i hi hB=>hT.block i hi hB.1⟩,hT⟩
theorem rNum_le (s:RdS):(rNum s).1<256:=UInt8.toNat_lt _
set_option maxRecDepth 100000 in
set_option maxHeartbeats 1000000 in
theorem numberC (p q:Nat) (s:RdS) (w:World) (h:RdB w p q s):
  Calls Tryz.prog 198 #[.pointer (some ⟨p,0,none⟩)] w fun e w'=>e=.returned (.int .i64 ((rNum s).1:Nat))∧RdB w' p q (rNum s).2∧Tn p w w':=by
 have HT:=hide (takeC p q s 1 w h);obtain⟨t,s1,ht⟩:∃t s1,rTake 1 s=(t,s1):=⟨_,_,rfl⟩;have HN:Hid (rNum s=((t.headD 0).toNat,s1)):=by show _=_;unfold rNum;rw[ht]
 have hln:t.length≤1:=by
  have e:t=(rTake 1 s).1:=by rw[ht]
  rw[e];unfold rTake;split
  ·simp
  ·simp[List.length_take];omega
 rw[ht] at HT;clear h ht
 go_enter Tryz.func198,Tryz.ntmps198
 go_wp2_with fail
 refine HT.out.mono ?_;rintro e w1 ⟨v,rfl,hv,hR,hT⟩;have hv:LongB (fun k=>k≠p∧k<q) w1 v t:=hv;have hR:RdB w1 p q s1:=hR;have HR:=hide hR;have HT1:=hide hT;obtain⟨a,cap,rfl⟩:=LongB.slice hv;clear HT hR hT;cases t with
 |nil=>
  clear hv;go_wp2;go_ret;rw[HN.out];exact⟨rfl,HR.out,HT1.out⟩
 |cons c t=>
  have:t=[]:=List.eq_nil_of_length_eq_zero (by simpa using hln);subst this;obtain⟨b,off,cc,rfl,hb,rfl,hc⟩:=LongB.here hv (i:=0) rfl;have c0:w1.cell? ⟨b,off,none⟩=some (.int .u8 (c.toNat:Int)):=by simpa[byteK] using hc 0 _ rfl
  have hcl:=c.toNat_lt;clear hv hc hln;have HN':Hid (rNum s=(c.toNat,s1)):=HN;clear HN;generalize c.toNat=cn at*;go_wp2;go_ret;rw[HN'.out];exact⟨rfl,HR.out,HT1.out⟩
set_option maxRecDepth 100000 in
set_option maxHeartbeats 1000000 in
theorem flagRC (p q:Nat) (s:RdS) (w:World) (h:RdB w p q s):
  Calls Tryz.prog 199 #[.pointer (some ⟨p,0,none⟩)] w fun e w'=>e=.returned (.bool (rFlag s).1)∧RdB w' p q (rFlag s).2∧Tn p w w':=by
 have HT:=hide (numberC p q s w h);obtain⟨n,s1,hn⟩:∃n s1,rNum s=(n,s1):=⟨_,_,rfl⟩;have hle:=rNum_le s;have HF:Hid (rFlag s=(decide (n=1),(s1.1,s1.2||decide (1<n)))):=by show _=_;unfold rFlag;rw[hn]
 rw[hn] at HT hle;clear h hn;dsimp only at hle
 go_enter Tryz.func199,Tryz.ntmps199
 go_wp2_with fail
 refine HT.out.mono ?_;rintro e w1 ⟨rfl,hR,hT⟩;obtain⟨l1,am⟩:=s1;obtain⟨v,hr,hv⟩:=hR;dsimp only at hr hv HF⊢;obtain⟨c0,c1,f0,f1,hlt⟩:=rowB hr;have HT1:=hide hT;have HR:=hide hr;have HV:=hide hv;clear HT hr hv hT;have hend:∀b:Bool,Tn p w1 (w1.setCell ⟨p,1,none⟩ (.bool b)):=fun b=>(Tn.refl p w1).setCell (Or.inl rfl) _;have HE:=hide hend;clear hend;have fin:∀b:Bool,b=(am||decide (1<n))→RdB (w1.setCell ⟨p,1,none⟩ (.bool b)) p q (l1,am||decide (1<n))∧Tn p w (w1.setCell ⟨p,1,none⟩ (.bool b)):=fun b hb=>by
  subst hb;have ht:=HE.out (am||decide (1<n));exact⟨⟨v,set_row (j:=1) HR.out _,LongB.kept HV.out ht.size fun i hi hB=>ht.block i hi hB.1⟩,HT1.out.trans ht⟩
 have Fin:=hide fin;clear fin;have he:((n:Int)==1)=decide (n=1):=by
  by_cases h:n=1
  ·subst h;rfl
  ·have:¬(n:Int)=1:=by omega
   simp[h];omega
 have HEq:=hide he;clear he;cases am with
 |true=>
  go_wp2;go_ret;rw[HF.out];exact⟨ret_bool HEq.out,Fin.out true (by simp)⟩
 |false=>
  have hd:decide (1<(n:Int))=decide (1<n):=by
   by_cases h:1<n
   ·rw[decide_eq_true h,decide_eq_true (by omega)]
   ·rw[decide_eq_false h,decide_eq_false (by omega)]
  have HD:=hide hd;clear hd;go_wp2;go_ret;rw[HF.out];exact⟨ret_bool HEq.out,Fin.out _ (by rw[HD.out];rfl)⟩
theorem convY {w:World} {v:Value} {B:Nat→Prop} {l:Bs} (h:LongB B w v l):(convert 48 9 v).run Tryz.prog w=.ok (.string (bs l)) w:=by
 obtain⟨_,a,cap,rfl,h2⟩:=h;cases a with
 |none=>
  have hl:l=[]:=Classical.byContradiction fun hl=>by obtain⟨b,off,e,_⟩:=h2 hl;cases e
  subst hl;exact run_convert_bytes_nil (P:=Tryz.prog) w 48 5 Tryz.underlying48 Tryz.underlying5 _ _ 9 Tryz.underlying9
 |some a=>
  refine run_convert_bytes_back (P:=Tryz.prog) w 48 9 5 a cap l Tryz.underlying48 Tryz.underlying5 Tryz.underlying9 fun j hj=> ?_;obtain⟨b,off,e,hB,hb,hc⟩:=h2 (fun e=>by rw[e] at hj;simp at hj);cases e;obtain⟨c,rfl,c2⟩:=hc j l[j] (List.getElem?_eq_getElem hj);have:=c2 0 _ rfl;rw[Addr.add_lit];simpa[byteK] using this
set_option maxRecDepth 100000 in
set_option maxHeartbeats 1000000 in
theorem textC (p q:Nat) (s:RdS) (w:World) (h:RdB w p q s):
  Calls Tryz.prog 259 #[.pointer (some ⟨p,0,none⟩)] w fun e w'=>e=.returned (.string (rText s).1)∧RdB w' p q (rText s).2∧Tn p w w':=by
 have HN:=hide (numberC p q s w h);obtain⟨n,s1,hn⟩:∃n s1,rNum s=(n,s1):=⟨_,_,rfl⟩;have hle:=rNum_le s;have HF:Hid (rText s=(bs (rTake n s1).1,(rTake n s1).2)):=by show _=_;unfold rText;rw[hn]
 rw[hn] at HN hle;clear h hn
 go_enter Tryz.func259,Tryz.ntmps259
 go_wp2_with fail
 refine HN.out.mono ?_;rintro e w1 ⟨rfl,hR,hT⟩;have HT:=hide (takeC p q s1 n w1 hR);have HT1:=hide hT;clear HN hR hT;dsimp only
 go_wp2_with fail
 refine HT.out.mono ?_;rintro e w2 ⟨v,rfl,hv,hR,hT⟩;have hcv:=convY hv;obtain⟨a,k,c,rfl⟩:∃a n c,v=.slice a n c:=by obtain⟨a,c,e⟩:=LongB.slice hv;exact⟨a,_,c,e⟩
 have HR:=hide hR;have HT2:=hide (HT1.out.trans hT);clear HT hv hR hT HT1;go_wp2;go_ret;rw[HF.out];exact⟨rfl,HR.out,HT2.out⟩
end Go.Proofs.YtafmbokfkbccaaaGreatDoor
