import Derived.Test.YtafmbokfkbccaaaGreatDoorJD33
import Derived.Test.YtafmbokfkbccaaaGreatDoorJD24
import Derived.Test.YtafmbokfkbccaaaGreatDoorJD28
import Derived.Test.YtafmbokfkbccaaaGreatDoorJD6
import Derived.Test.YtafmbokfkbccaaaGreatDoorJD31
namespace Go.Proofs.YtafmbokfkbccaaaGreatDoor
open Go.RowKit Go.Sort Go.Maps
theorem IntsZ.below {w w':World} {v:Value} {g:Nat→Int} {n:Nat} (h:IntsZ w v g n) (k:Below w.heap.size w w'):IntsZ w' v g n:=by
 obtain⟨a,c,rfl,h1⟩:=h;refine⟨a,c,rfl,fun hn=> ?_⟩;obtain⟨b,off,rfl,hb,hc⟩:=h1 hn;exact⟨b,off,rfl,Nat.lt_of_lt_of_le hb k.size,fun i hi=>by rw[k.cell (p:=⟨b,off+i,none⟩) hb];exact hc i hi⟩
theorem wpList_run_store {P:Program} {w:World} {ops:Array Oper} {rest:List Oper} {o:Oper} {a:Act} {Q:Exit→Act→World→Prop} (hg:o.guard=none) (t:TypeId) (p x:Operand) (hop:o.op=Op.store t p x) (vp vx:Value) (w':World) (hp:a.eval p=vp) (hx:a.eval x=vx) (hrun:(Instr.storeAt t vp vx).run P w=.ok () w')
  (hK:wpList P ops Q rest (a.put o.dst undef) w'):wpList P ops Q (o::rest) a w:=by
 refine wpList_plain hg fun K' hK'=> ?_;unfold Oper.wp;simp[execOp,hop,hp,hx,hrun,Result.andThen];exact hK' _ _ hK
theorem store_reach {w:World} {g:Nat} {f f':Nat→Nat→Bool} (h:RowR 92 w g f):(Instr.storeAt 92 (.pointer (some ⟨g,0,none⟩)) (.agg (cellsR f'))).run Tryz.prog w=.ok () (w.setRow g (cellsR f')):=by
 simp only[Instr.storeAt,Instr.sureAddr,Sem.run_bind,Sem.run_pure,Result.andThen];exact run_storeVar_row _ _ 92 92 _ _ h (by rw[cellsR_size];kernel_rfl) (by rw[cellsR_size,cellsR_size]) (Array.all_eq_true_iff_forall_mem.2 fun v hv=>cellsR_one f' v (by simpa using hv))
end Go.Proofs.YtafmbokfkbccaaaGreatDoor
namespace Go.Proofs.YtafmbokfkbccaaaGreatDoor
open Go.RowKit Go.Sort
theorem flat_get {size:Nat}:∀(cs:List (List Value)),(∀c∈cs,c.length=size)→∀i c j,cs[i]?=some c→j<size→cs.flatten[i*size+j]?=c[j]?
 |[],_,i,c,j,h,_=>by simp at h
 |d::cs,hl,i,c,j,h,hj=>by
  have hd:d.length=size:=hl d (by simp);cases i with
  |zero=>
   simp at h;subst h;rw[List.flatten_cons,Nat.zero_mul,Nat.zero_add,List.getElem?_append_left (by omega)]
  |succ i=>
   have ih:=flat_get cs (fun c hc=>hl c (by simp[hc])) i c j (by simpa using h) hj;rw[List.flatten_cons,List.getElem?_append_right (by rw[Nat.add_mul];omega),show(i+1)*size+j-d.length=i*size+j by rw[Nat.add_mul];omega];exact ih
theorem flat_len {size:Nat}:∀(cs:List (List Value)),(∀c∈cs,c.length=size)→cs.flatten.length=cs.length*size
 |[],_=>by simp
 |d::cs,hl=>by
  have:=flat_len cs (fun c hc=>hl c (by simp[hc]));have hd:d.length=size:=hl d (by simp);rw[List.flatten_cons,List.length_append,this,hd,List.length_cons,Nat.add_mul];omega
theorem Kind.sl_cells {α:Type} {K:Kind α} {B:Nat→Prop} {w:World} {a:Addr} {n cap:Nat} {m:List α} (h:K.sl B w (.slice (some a) n cap) m) (hsz:0<K.size):
  ∃cs:List (List Value),cs.length=m.length∧(∀c∈cs,c.length=K.size)∧(∀c∈cs,∀u∈c,u.oneCell'=true)∧(∀(j:Nat) (u:Value),cs.flatten[j]?=some u→w.cell? (a.add j)=some u)∧∀(i:Nat) (c:List Value) (x:α),cs[i]?=some c→m[i]?=some x→K.is B w c x:=by
 by_cases hm:m=[]
 ·subst hm;exact⟨[],rfl,by simp,by simp,by simp,fun i c x h=>by simp at h⟩
 obtain⟨_,a',cap',e,h1⟩:=h;simp only[Value.slice.injEq] at e;obtain⟨rfl,_,_⟩:=e;obtain⟨b,off,e,_,hb,hc⟩:=h1 hm;simp only[Option.some.injEq] at e;subst e;have key:∀i:Fin m.length,∃c,K.is B w c m[i.1]∧∀j u,c[j]?=some u→w.cell? ⟨b,off+i.1*K.size+j,none⟩=some u:=fun i=>hc i.1 _ (List.getElem?_eq_getElem i.2);have get:∀i,(List.ofFn fun i:Fin m.length=>Classical.choose (key i))[i]?=if h:i<m.length then some (Classical.choose (key ⟨i,h⟩)) else none:=fun i=>by rw[List.getElem?_ofFn]
 have hl:∀c∈List.ofFn fun i:Fin m.length=>Classical.choose (key i),c.length=K.size:=fun c hc=>by
  rw[List.mem_ofFn] at hc;obtain⟨i,rfl⟩:=hc;exact K.len (Classical.choose_spec (key i)).1
 refine⟨List.ofFn fun i:Fin m.length=>Classical.choose (key i),by simp,hl,fun c hc=> ?_,fun j u hu=> ?_,fun i c x hi hx=> ?_⟩
 ·rw[List.mem_ofFn] at hc;obtain⟨i,rfl⟩:=hc;exact K.one (Classical.choose_spec (key i)).1
 ·have hj:=(List.getElem?_eq_some_iff.1 hu).1;rw[flat_len _ hl,List.length_ofFn] at hj;have hq:j/K.size<m.length:=(Nat.div_lt_iff_lt_mul hsz).2 hj;have hr:j%K.size<K.size:=Nat.mod_lt _ hsz;have hjq:j/K.size*K.size+j%K.size=j:=by rw[Nat.mul_comm];exact Nat.div_add_mod j K.size
  have hg:=get (j/K.size);rw[dif_pos hq] at hg;have:=flat_get _ hl _ _ (j%K.size) hg hr;rw[hjq,hu] at this;have hcell:=(Classical.choose_spec (key ⟨j/K.size,hq⟩)).2 _ u this.symm;rw[Addr.add_lit];rw[show off+j/K.size*K.size+j%K.size=off+j by omega] at hcell;exact hcell
 ·rw[get] at hi;split at hi
  ·rename_i h;rw[List.getElem?_eq_getElem h] at hx;cases hi;cases hx;exact(Classical.choose_spec (key ⟨i,h⟩)).1
  ·cases hi
theorem Kind.own_appends {α:Type} {P:Program} {K:Kind α} {t ty e':TypeId} {lo bytes:Nat} {w:World} {v:Value} {l m:List α} {a:Option Addr} {cap:Nat} (h:K.own ty lo w v l) {i:TypeInfo} {z:Value}
  (ht:P.underlying t=some (.slice ty)) (hi:P.info? ty=some i) (hz:i.zero=some z) (hsize:i.size=K.size) (hby:i.bytes=bytes) (hzs:z.cells.size=K.size) (hsz:0<K.size) (hb:bytes≤100)
  (hs:K.sl (fun k=>lo≤k∧v.ownBlock≠some k) w (.slice a m.length cap) m) (hl:l.length+m.length≤1099511627776) (hlo:lo≤w.heap.size) (_:e'=t):
  ∃v' w',(Builtin.append_ #[t,t] t #[v,.slice a m.length cap]).run P w=.ok v' w'∧K.own ty lo w' v' (l++m)∧w.grownBy w' v.ownBlock∧∀k,v'.ownBlock=some k→v.ownBlock=some k∨w.heap.size≤k:=by
 cases a with
 |none=>
  have hm:m=[]:=by
   refine Classical.byContradiction fun hne=> ?_;obtain⟨_,a',_,e,h1⟩:=hs;simp only[Value.slice.injEq] at e;obtain⟨b,off,e',_⟩:=h1 hne;rw[e'] at e;cases e.1
  subst hm;refine⟨v,w,?_,by rw[List.append_nil];exact h,⟨rfl,rfl,rfl,Nat.le_refl _,fun _ _ _=>rfl⟩,fun k hk=>Or.inl hk⟩;obtain⟨xs,ho,_⟩:=h;rcases ho.2 with⟨rfl,e0⟩|⟨g,c,cur,rfl,_,_,hnc,_⟩
  ·simp[Builtin.append_,run_underlying ht,sizeOf,typeInfo,hi,Builtin.lenOf,Builtin.firstCells]
  ·simp[Builtin.append_,run_underlying ht,sizeOf,typeInfo,hi,Builtin.lenOf,Builtin.firstCells,hnc,storeCells]
 |some a=>
  obtain⟨cs,cl,clen,cone,ccell,cis⟩:=Kind.sl_cells hs hsz;obtain⟨xs,ho,hx⟩:=h;have hxl:xs.length=l.length*K.size:=ho.1;obtain⟨v',w',hrun,r1,r2,r3,r4⟩:=append_own (P:=P) w lo t t ty i z K.size bytes ht hi hz hsize hby hzs hsz v l.length xs ho a m.length cap cs.flatten (by rw[flat_len _ clen,cl]) ccell
   (fun u hu=>by rw[List.mem_flatten] at hu;obtain⟨c,hc,hu⟩:=hu;exact cone c hc u hu) (by simp only[maxLen];omega) (Nat.le_trans (Nat.mul_le_mul hl hb) (by omega)) hlo
  have own':∀k,k<w.heap.size→v'.ownBlock=some k→v.ownBlock=some k:=fun k hk e=>(r4 k e).elim id fun h=>by omega
  have keep:∀k,k<w.heap.size→(lo≤k∧v.ownBlock≠some k)→w'.heap[k]?=w.heap[k]?:=fun k hk hB=>r2.block k hk (fun e=>hB.2 e.symm);have move:∀{c:List Value} {y:α},K.is (fun k=>lo≤k∧v.ownBlock≠some k) w c y→K.is (fun k=>lo≤k∧v'.ownBlock≠some k) w' c y:=fun {c y} hy=>
   K.kept (K.mono hy fun k hk hB=>(⟨⟨hB.1,fun e=>hB.2 (own' k hk e)⟩,hB⟩:(lo≤k∧v'.ownBlock≠some k)∧(lo≤k∧v.ownBlock≠some k))) r2.size (fun k hk hB=>keep k hk hB.2) |> fun h=>K.mono h fun _ _ hB=>hB.1
  refine⟨v',w',hrun,⟨xs++cs.flatten,by rw[List.length_append];exact r1,fun j y hj=> ?_⟩,r2,r4⟩
  by_cases hjl:j<l.length
  ·rw[List.getElem?_append_left hjl] at hj;obtain⟨d,d1,d2⟩:=hx j y hj;refine⟨d,move d1,fun q u hu=> ?_⟩;have:=d2 q u hu;rw[List.getElem?_append_left (List.getElem?_eq_some_iff.1 this).1];exact this
  ·rw[List.getElem?_append_right (by omega)] at hj;have hjm:=(List.getElem?_eq_some_iff.1 hj).1;have hc:cs[j-l.length]?=some (cs[j-l.length]'(by omega)):=List.getElem?_eq_getElem (by omega);refine⟨_,move (cis _ _ y hc hj),fun q u hu=> ?_⟩;have hq:q<K.size:=by rw[←clen _ (List.getElem_mem (by omega:j-l.length<cs.length))];exact(List.getElem?_eq_some_iff.1 hu).1
   have:=flat_get cs clen _ _ q hc hq;rw[List.getElem?_append_right (by rw[hxl];have:=Nat.mul_le_mul_right K.size (Nat.le_of_not_lt hjl);omega),hxl,
    show j*K.size+q-l.length*K.size=(j-l.length)*K.size+q by rw[Nat.sub_mul];have:=Nat.mul_le_mul_right K.size (Nat.le_of_not_lt hjl);omega,this]
   exact hu
end Go.Proofs.YtafmbokfkbccaaaGreatDoor
namespace Go.Proofs.YtafmbokfkbccaaaGreatDoor
open Go.RowKit Go.Sort
theorem infoDo:∃i z,Tryz.prog.info? 72=some i∧i.zero=some z∧i.size=doK.size∧i.bytes=72∧z.cells.size=doK.size:=⟨Tryz.t72,.agg #[.int .i64 0,.int .i64 0,.string ByteArray.empty,.slice none 0 0,.string ByteArray.empty],by kernel_rfl,by kernel_rfl,by kernel_rfl,by kernel_rfl,by kernel_rfl⟩
structure DosS (w0 w:World) (v:Value) (l:List DoD):Prop where
 own:doK.own 72 0 w v l
 far:∀k,v.ownBlock=some k→w0.heap.size≤k
 below:Below w0.heap.size w0 w
theorem DosS.nil (w:World):DosS w w (.slice none 0 0) []:=⟨doK.own_nil _ _ _,fun k e=>by simp[Value.ownBlock] at e,Below.refl _ _⟩
theorem DosS.later {w0 w w':World} {v:Value} {l:List DoD} (h:DosS w0 w v l) (k:Below w.heap.size w w'):DosS w0 w' v l:=by
 refine⟨?_,h.far,below_trans h.below k h.below.size⟩;obtain⟨xs,ho,hx⟩:=h.own;refine⟨xs,⟨ho.1,?_⟩,fun i x hi=> ?_⟩
 ·rcases ho.2 with e|⟨g,cap,cur,rfl,hbg,hg,r⟩
  ·exact Or.inl e
  ·exact Or.inr ⟨g,cap,cur,rfl,hbg,by rw[k.block g (Array.getElem?_eq_some_iff.1 hg).1];exact hg,r⟩
 ·obtain⟨c,c1,c2⟩:=hx i x hi;exact⟨c,doK.kept c1 k.size fun j hj _=>k.block j hj,c2⟩
theorem DosS.slice {w0 w:World} {v:Value} {l:List DoD} (h:DosS w0 w v l):∃a c,v=.slice a l.length c:=Kind.own_slice h.own
theorem DosS.sl {w0 w:World} {v:Value} {l:List DoD} (h:DosS w0 w v l) (hl:l.length≤8796093022208):doK.sl Anyw w v l:=Kind.sl_any (Kind.own_sl h.own hl)
theorem grown_below {w0 w w':World} {o:Option Nat} (h:Below w0.heap.size w0 w) (hg:w.grownBy w' o) (hf:∀k,o=some k→w0.heap.size≤k):Below w0.heap.size w0 w':=
 ⟨hg.os.trans h.os,hg.tape.trans h.tape,hg.output.trans h.output,Nat.le_trans h.size hg.size,fun k hk=>(hg.block k (Nat.lt_of_lt_of_le hk h.size) (fun e=>by have:=hf k e.symm;omega)).trans (h.block k hk)⟩
theorem DosS.more {w0 w:World} {v:Value} {l:List DoD} (h:DosS w0 w v l) (hl:l.length≤1000) {x:DoD} {s:Value} (hs:StrsB (fun k=>v.ownBlock≠some k) w s x.fact.2):
  ∃a n c w',(Builtin.append_ #[49,49] 49 #[v,.slice (some ⟨w.heap.size,0,none⟩) 1 1]).run Tryz.prog (w.alloc (.cells #[.int .i64 x.kind,.int .i64 x.n,.string x.fact.1,s,.string x.text] 72))=.ok (.slice a n c) w'∧DosS w0 w' (.slice a n c) (l++[x]):=by
 obtain⟨i,z,i1,i2,i3,i4,i5⟩:=infoDo;obtain⟨v',w',hrun,hO,hg,_,hk⟩:=Kind.own_more (P:=Tryz.prog) (t:=49) h.own Tryz.underlying49 i1 i2 i3 i4 i5 (by show 0<5;decide) (x:=x) (c:=[.int .i64 x.kind,.int .i64 x.n,.string x.fact.1,s,.string x.text])
  ⟨s,rfl,hs.mono fun k _ hb=>⟨Nat.zero_le _,hb⟩⟩ (by omega) (by simp only[maxLen];omega) (Nat.zero_le _)
 obtain⟨a,c,rfl⟩:=Kind.own_slice hO;have hsz:=h.below.size;refine⟨a,_,c,w',hrun,hO,fun k e=> ?_,?_⟩
 ·rcases hk k e with e|e
  ·exact h.far k e
  ·omega
 ·exact grown_below (below_trans h.below ((Later.refl w).alloc _).below h.below.size) hg h.far
def cellsDo (p:DoD×Value):List Value:=[.int .i64 p.1.kind,.int .i64 p.1.n,.string p.1.fact.1,p.2,.string p.1.text]
theorem dos_row {B:Nat→Prop} {w:World} {b:Nat} {t:TypeId} {m:List (DoD×Value)} (h:w.heap[b]?=some (.cells (m.map cellsDo).flatten.toArray t (0,0))) (hB:B b) (hm:m.length≤1000) (hs:∀p∈m,StrsB B w p.2 p.1.fact.2):doK.sl B w (.slice (some ⟨b,0,none⟩) m.length m.length) (m.map (·.1)):=by
 refine⟨⟨by rw[List.length_map];omega,Nat.le_refl _⟩,_,m.length,by rw[List.length_map],fun _=>⟨b,0,rfl,hB,(Array.getElem?_eq_some_iff.1 h).1,fun i x hi=> ?_⟩⟩;rw[List.getElem?_map] at hi;obtain⟨p,hp,rfl⟩:=Option.map_eq_some_iff.1 hi;refine⟨cellsDo p,⟨p.2,rfl,hs p (List.mem_of_getElem? hp)⟩,fun j u hu=> ?_⟩;have hj:j<5:=(List.getElem?_eq_some_iff.1 hu).1;rw[cell_of_row _ _ _ _ _ _ h];have:=flat_get (size:=5) (m.map cellsDo) (fun c hc=>by obtain⟨q,_,rfl⟩:=List.mem_map.1 hc;rfl) i (cellsDo p) j (by rw[List.getElem?_map,hp];rfl) hj;rw[show doK.size=5 from rfl,Nat.zero_add];simpa[hu] using this
theorem DosS.many {w0 w:World} {v:Value} {l:List DoD} (h:DosS w0 w v l) {m:List DoD} {a:Option Addr} {cap:Nat} (hs:doK.sl (fun k=>v.ownBlock≠some k) w (.slice a m.length cap) m) (hl:l.length+m.length≤1099511627776):
  ∃a' n c w',(Builtin.append_ #[49,49] 49 #[v,.slice a m.length cap]).run Tryz.prog w=.ok (.slice a' n c) w'∧DosS w0 w' (.slice a' n c) (l++m):=by
 obtain⟨i,z,i1,i2,i3,i4,i5⟩:=infoDo;obtain⟨v',w',hrun,hO,hg,hk⟩:=Kind.own_appends (P:=Tryz.prog) (e':=49) h.own Tryz.underlying49 i1 i2 i3 i4 i5 (by show 0<5;decide) (by decide) (Kind.sl_mono hs fun k _ hb=>⟨Nat.zero_le _,hb⟩) hl (Nat.zero_le _) rfl;obtain⟨a',c,rfl⟩:=Kind.own_slice hO;have hsz:=h.below.size;refine⟨a',_,c,w',hrun,hO,fun k e=> ?_,grown_below h.below hg h.far⟩;rcases hk k e with e|e
 ·exact h.far k e
 ·omega
end Go.Proofs.YtafmbokfkbccaaaGreatDoor
namespace Go.Proofs.YtafmbokfkbccaaaGreatDoor
open Go.RowKit Go.Sort Go.Maps
theorem fact_at {w:World} {a:Option Addr} {n c i:Nat} {l:List FactB} {f:FactB} (h:Facts w (.slice a n c) l) (hi:l[i]?=some f):∃b off s,a=some ⟨b,off,none⟩∧b<w.heap.size∧w.cell? ⟨b,off+i*2,none⟩=some (.string f.1)∧w.cell? ⟨b,off+i*2+1,none⟩=some s∧Strs w s f.2:=by
 obtain⟨_,a',cap',e,h1⟩:=h;simp only[Value.slice.injEq] at e;obtain⟨rfl,_,_⟩:=e;have hlt:=(List.getElem?_eq_some_iff.1 hi).1;obtain⟨b,off,rfl,hb,hc⟩:=h1 (by intro e;rw[e] at hi;simp at hi);obtain⟨c1,s,c2,c3⟩:=hc i hlt;rw[List.getD_eq_getElem?_getD,hi] at c1 c3;exact⟨b,off,s,rfl,hb,c1,c2,c3⟩
set_option maxRecDepth 100000 in
set_option maxHeartbeats 20000000 in
theorem topDeskW (n at_:Int) (fv tv:Value) (g h:Nat→Int) (nf nt:Nat) (w:World) (m:Int) (hm:w.cell? ⟨1,0,none⟩=some (.int .i64 m)) (hmw:1<w.heap.size) (hF:IntsZ w fv g nf) (hT:IntsZ w tv h nt):
  Calls Tryz.prog 13 #[.int .i64 n,fv,tv,.int .i64 at_] w fun e w'=>e=.returned (.bool true)∧Below w.heap.size w w':=by
 have HA:=hide (aliveT w m hm);have HM0:=hide hm;clear hm;have HF:=hide hF;have HT:=hide hT;obtain⟨fa,fc,rfl,_⟩:=hF;obtain⟨ta,tc,rfl,_⟩:=hT
 go_enter Tryz.func13,Tryz.ntmps13
 go_wp2_with fail
 refine HA.out.mono ?_;rintro e w1 ⟨rfl,hB1⟩;have HB1:=hide hB1;clear HA hB1
 by_cases hn1:n<1
 ·go_wp2;go_ret;exact⟨rfl,HB1.out⟩
 by_cases hn5:5<n
 ·go_wp2;go_ret;exact⟨rfl,HB1.out⟩
 by_cases hn8:(8:Int)<(nf:Int)
 ·go_wp2;go_ret;exact⟨rfl,HB1.out⟩
 by_cases ha0:at_<0
 ·go_wp2;go_ret;exact⟨rfl,HB1.out⟩
 by_cases ha20:20<at_
 ·go_wp2;go_ret;exact⟨rfl,HB1.out⟩
 obtain⟨k,rfl⟩:∃k:Nat,n=(k:Int):=⟨n.toNat,by omega⟩;obtain⟨at',rfl⟩:∃k:Nat,at_=(k:Int):=⟨at_.toNat,by omega⟩;have hk1:1≤k:=by omega
 have hk5:k≤5:=by omega
 have hf8:nf≤8:=by omega
 have hat:at'≤20:=by omega
 have HN:=hide (netsC k hk1 (by omega) _ _ g h nf nt (by omega) w1 (HF.out.below HB1.out) (HT.out.below HB1.out));obtain⟨F,hFe⟩:∃F,F=passN k (rdsF k g h nt nf) k:=⟨_,rfl⟩;obtain⟨L,hLe⟩:∃L,L=setF (rdsL k g h nt nf++twsL k):=⟨_,rfl⟩;obtain⟨hl13,D,ans,R,R',hpl,hal,ha10,ha7⟩:=desk_plays (fun _ _ _=>(0,none)) hk1 hk5 hf8 hLe hFe hat;rw[←hFe,←hLe] at HN;have HPl:=hide hpl;have HAl:=hide hal;have HA10:=hide ha10;have HA7:=hide ha7;clear hFe hLe HF HT hpl hal ha10 ha7
 go_wp2_with fail
 refine HN.out.mono ?_;rintro e w2 ⟨v2,rfl,hO2,hB2⟩;obtain⟨a2,c2,rfl⟩:=hO2.slice;obtain⟨w3,hw3⟩:∃w3,w3=w2.alloc (.cells (cellsR noR) 92):=⟨_,rfl⟩;have hr3:RowR 92 w3 w2.heap.size noR:=by unfold RowR;rw[hw3];exact heap_alloc_new _ _
 have hL3:Later w2 w3:=by rw[hw3];exact(Later.refl _).alloc _
 have hst:=store_reach (f':=F) hr3;obtain⟨hr4,hT4⟩:=row_new (cs':=cellsR F) hr3;have hr4:RowR 92 _ w2.heap.size F:=hr4;have hB4:Below w2.heap.size w2 (w3.setRow w2.heap.size (cellsR F)):=below_trans hL3.below (hT4.below (Nat.le_refl _) hL3.size) (Nat.le_refl _);have hB04:Below w.heap.size w (w3.setRow w2.heap.size (cellsR F)):=below_trans (below_trans HB1.out hB2 HB1.out.size) hB4 (Nat.le_trans HB1.out.size hB2.size);have hFc:Facts (w3.setRow w2.heap.size (cellsR F)) (.slice a2 L.length c2) L:=(hO2.facts (by omega)).below hB4;generalize w3.setRow w2.heap.size (cellsR F)=w4 at*;rw[cells_noR] at hw3;have HW3:=hide hw3;have HSt:=hide hst;have HR4:=hide hr4;have HB4:=hide hB04;have HF4:=hide hFc;clear hw3 hr3 hL3 hst hr4 hT4 hB4 hB04 hFc hO2 hB2 HN HB1
 go_wp2_with (first|(rw[←HW3.out])|(refine wpList_run_store rfl 92 (.tmp 10) (.tmp 48) rfl _ _ _ rfl rfl HSt.out ?_)|fail)
 clear HW3 HSt
 go_loopg [11,51] L.length (fun q v i wr=>∃j:Nat,j+q=L.length∧i=.int .i64 j∧Hid (DosS w4 wr v ((L.take j).map tellDo)))
 case atStart=>exact⟨0,by omega,rfl,DosS.nil _⟩
 case round=>
  obtain⟨j,hj,rfl,HD⟩:=hrel;obtain⟨va,vn,vc,rfl⟩:∃a n c,u11=.slice a n c:=by obtain⟨a,c,e⟩:=HD.out.slice;exact⟨a,_,c,e⟩
  by_cases hlt:j<L.length
  ·have hltz:(j:Int)<(L.length:Int):=by omega
   obtain⟨f,hf⟩:∃f,L[j]?=some f:=⟨_,List.getElem?_eq_getElem hlt⟩;obtain⟨fb,fo,s,e2,hfb,k1,k2,k3⟩:=fact_at HF4.out hf;subst e2;have d0:wr.cell? ⟨fb,fo+j*2,none⟩=some (.string f.1):=by rw[HD.out.below.cell (p:=⟨fb,fo+j*2,none⟩) hfb];exact k1
   have d1:wr.cell? ⟨fb,fo+j*2+1,none⟩=some s:=by rw[HD.out.below.cell (p:=⟨fb,fo+j*2+1,none⟩) hfb];exact k2
   obtain⟨sa,sc,rfl⟩:=sliceStr k3;obtain⟨wf,hwf⟩:∃wf,wf=wr.alloc (.cells #[.string f.1,.slice sa f.2.length sc] 27):=⟨_,rfl⟩;have hLf:Later wr wf:=by rw[hwf];exact(Later.refl _).alloc _
   have hRf:wf.heap[wr.heap.size]?=some (.cells #[.string f.1,.slice sa f.2.length sc] 27 (0,0)):=by rw[hwf];exact heap_alloc_new wr _
   have hDf:=HD.out.later hLf.below;have hS:StrsB (fun k=>(Value.slice va vn vc).ownBlock≠some k) wf (.slice sa f.2.length sc) (tellDo f).fact.2:=⟨k3.below hDf.below,fun q hne e e'=>by
    have h1:=k3.block_lt hne q e;have h2:=hDf.far q e';omega⟩
   obtain⟨a5,n5,c5,w5,hrun,hD5⟩:=hDf.more (by rw[List.length_map,List.length_take];omega) hS;obtain⟨g0,g1,_,_,_⟩:=row2 hRf;have g1':wf.cell? ⟨wr.heap.size,0+1,none⟩=some (.slice sa f.2.length sc):=g1;have HWf:=hide hwf;have HRn:=hide hrun;have HD5:Hid (DosS w4 w5 (.slice a5 n5 c5) ((L.take (j+1)).map tellDo)):=by rw[List.take_add_one,hf,List.map_append];exact hD5
   clear hwf hLf hRf hDf hS hrun hD5 k1 k2 k3 hf
   go_wp2_with (first|(rw[←HWf.out])|(at_builtin;refine wpList_append_run rfl (.tmp 55) (.tmp 58) 49 rfl _ _ _ _ rfl rfl HRn.out ?_)|fail)
   go_roundg (L.length- (j+1))
   case measure=>omega
   case rel=>exact⟨j+1,by omega,by go_num,HD5⟩
  ·obtain rfl:j=L.length:=by omega
   rw[List.take_length] at HD;have hnz:¬(L.length:Int)<(L.length:Int):=by omega
   go_wp2
   go_loopg [14,62] k (fun q c i wr=>∃a:Nat,a+q=k∧i=.int .i64 a∧c=.int .i64 (cntA F k a:Nat)∧Hid (DosS w4 wr (.slice va vn vc) (L.map tellDo)))
   case atStart=>exact⟨0,by omega,rfl,rfl,HD⟩
   case round=>
    clear HD;obtain⟨a,ha,rfl,rfl,HD⟩:=hrel
    by_cases hak:a<k
    ·have haz:(a:Int)<(k:Int):=by omega
     have hcA:=cntA_le F k a;have hcA2:a*k≤25:=Nat.le_trans (Nat.mul_le_mul (by omega:a≤5) hk5) (by decide);go_wp2
     go_loopg [14,66] k (fun q c i wr=>∃b:Nat,b+q=k∧i=.int .i64 b∧c=.int .i64 (cntA F k a+cntB F a b:Nat)∧Hid (DosS w4 wr (.slice va vn vc) (L.map tellDo)))
     case atStart=>exact⟨0,by omega,rfl,rfl,HD⟩
     case round=>
      clear HD;obtain⟨b,hb,rfl,rfl,HD⟩:=hrel
      by_cases hbk:b<k
      ·have hbz:(b:Int)<(k:Int):=by omega
       have hcB:=cntB_le F a b;have hrow:RowR 92 wr w2.heap.size F:=(HD.out.below.block _ HR4.out.lt).trans HR4.out;have q0:=hrow.cell (a:=a) (c:=b) (by omega) (by omega);have a8:(a:Int)<8:=by omega
       have b8:(b:Int)<8:=by omega
       obtain⟨N,hN⟩:∃N,N=cntA F k a+cntB F a b:=⟨_,rfl⟩;have hN2:cntA F k a+cntB F a (b+1)=if F a b then N+1 else N:=by rw[cntB,hN];split <;> omega
       have hNl:N≤30:=by omega
       have HN2:=hide hN2;rw[←hN];clear hrow hcB hN hN2;cases hx:F a b
       ·rw[hx] at q0 HN2;simp only[Bool.false_eq_true,if_false] at HN2;clear hx;go_wp2
        go_roundg (k- (b+1))
        case measure=>omega
        case rel=>exact⟨b+1,by omega,by go_num,by rw[HN2.out],HD⟩
       ·rw[hx] at q0 HN2;simp only[if_true] at HN2;clear hx;go_wp2
        go_roundg (k- (b+1))
        case measure=>omega
        case rel=>exact⟨b+1,by omega,by go_num,by rw[HN2.out];go_num,HD⟩
      ·have hbz:¬(b:Int)<(k:Int):=by omega
       obtain rfl:b=k:=by omega
       go_wp2
       go_roundg (b- (a+1))
       case measure=>omega
       case rel=>exact⟨a+1,by omega,by go_num,rfl,HD⟩
    ·have haz:¬(a:Int)<(k:Int):=by omega
     obtain rfl:a=k:=by omega
     have hcA:=cntA_le F a a;have hcA2:a*a≤25:=Nat.le_trans (Nat.mul_le_mul (by omega:a≤5) (by omega:a≤5)) (by decide);obtain⟨N,hN⟩:∃N,N=cntA F a a:=⟨_,rfl⟩;have hNl:N≤25:=by omega
     rw[←hN] at HA10 HA7;rw[←hN];clear hcA hcA2 hN
     go_wp2_with fail
     refine(roadL 6 7 (by omega) (by omega) _).mono ?_;rintro e w5 ⟨v5,rfl,hF5,hL5,hfar⟩;obtain⟨s,rfl,hs⟩:=hF5;obtain⟨sa,sc,rfl⟩:=sliceStr hs;have hD5:=HD.out.later hL5.below;obtain⟨M,hMe⟩:∃M:List (DoD×Value),M=[(plainDo 2 0 (bs roadsT),.slice none 0 0),(plainDo 3 0 ⟨#[]⟩,.slice none 0 0),(plainDo 4 (at':Nat) ⟨#[]⟩,.slice none 0 0),(plainDo 7 0 ⟨#[]⟩,.slice none 0 0),(tellDo rd67,.slice sa 2 sc),(plainDo 3 0 ⟨#[]⟩,.slice none 0 0),(plainDo 4 90 ⟨#[]⟩,.slice none 0 0),(plainDo 5 0 (bs askT),.slice none 0 0),(plainDo 8 0 ⟨#[]⟩,.slice none 0 0),(plainDo 4 90 ⟨#[]⟩,.slice none 0 0),(plainDo 5 0 (bs askT),.slice none 0 0)]:=⟨_,rfl⟩;have hM1:M.map (·.1)=dosD (at':Nat):=by rw[hMe];rfl
     have hMl:M.length=11:=by rw[hMe];rfl
     obtain⟨w6,hw6⟩:∃w6,w6=w5.alloc (.cells (M.map cellsDo).flatten.toArray 72):=⟨_,rfl⟩;have hL6:Later w5 w6:=by rw[hw6];exact(Later.refl _).alloc _
     have hr6:w6.heap[w5.heap.size]?=some (.cells (M.map cellsDo).flatten.toArray 72 (0,0)):=by rw[hw6];exact heap_alloc_new _ _
     have hD6:=hD5.later hL6.below;have hown:∀q,(Value.slice va vn vc).ownBlock=some q→q<wr.heap.size:=fun q e=>(Kind.own_lt HD.out.own e).2;have hsl:doK.sl (fun q=>(Value.slice va vn vc).ownBlock≠some q) w6 (.slice (some ⟨w5.heap.size,0,none⟩) (dosD (at':Nat)).length 11) (dosD (at':Nat)):=by
      have:=dos_row (B:=fun q=>(Value.slice va vn vc).ownBlock≠some q) hr6 (fun e=>by have:=hown _ e;have:=hL5.size;omega) (by omega) (fun p hp=>by
       have hnil:StrsB (fun q=>(Value.slice va vn vc).ownBlock≠some q) w6 (.slice none 0 0) []:=⟨⟨by simp,none,0,rfl,fun h=>absurd rfl h⟩,fun q h=>absurd rfl h⟩;rw[hMe] at hp;simp only[List.mem_cons,List.not_mem_nil,or_false] at hp;rcases hp with rfl|rfl|rfl|rfl|rfl|rfl|rfl|rfl|rfl|rfl|rfl
       ·exact hnil
       ·exact hnil
       ·exact hnil
       ·exact hnil
       ·refine⟨hs.later hL6,fun q _ e e'=> ?_⟩;obtain⟨_,s',es,hfar⟩:=hfar;simp only[Value.agg.injEq,Array.mk.injEq,List.cons.injEq,and_true] at es;obtain⟨rfl,rfl⟩:=es;have h1:=hown q e';have h2:=(hfar q e).1;omega
       ·exact hnil
       ·exact hnil
       ·exact hnil
       ·exact hnil
       ·exact hnil
       ·exact hnil)
      rw[hM1,hMl] at this;exact this
     obtain⟨a7,n7,c7,w7,hrun,hD7⟩:=hD6.many hsl (by rw[List.length_map];show _+11≤_;omega);have hn7:n7=L.length+11:=by
      obtain⟨_,_,e⟩:=hD7.slice;simp only[Value.slice.injEq,List.length_append,List.length_map] at e;exact e.2.1
     have HN7:=hide hn7;clear hn7;rw[hw6,hMe] at hrun;have HRn:=hide hrun;have hB07:Below w.heap.size w w7:=below_trans HB4.out hD7.below HB4.out.size;have hpc:=playC (fun _ _ _=>(0,none)) _ _ w7 (hD7.sl (by rw[List.length_append,List.length_map];show _+11≤_;omega)) m (by rw[hB07.cell (p:=⟨1,0,none⟩) hmw];exact HM0.out) (Nat.lt_of_lt_of_le hmw hB07.size) (fun x hx h6=>by
      exfalso
      rcases List.mem_append.1 hx with hx|hx
      ·obtain⟨f,_,rfl⟩:=List.mem_map.1 hx;simp[tellDo] at h6
      ·simp only[dosD,plainDo,tellDo,List.mem_cons,List.not_mem_nil,or_false] at hx;rcases hx with rfl|rfl|rfl|rfl|rfl|rfl|rfl|rfl|rfl|rfl|rfl <;> simp at h6)
     rw[HPl.out] at hpc;have HPc:=hide hpc;have HB07:=hide hB07;clear hs hfar hL5 hD5 hMe hM1 hMl hw6 hL6 hr6 hD6 hown hsl hrun hD7 hB07 hpc HD HPl
     go_wp2_with (first|(at_builtin;refine wpList_append_run rfl (.tmp 78) (.tmp 92) 49 rfl _ _ _ _ rfl rfl HRn.out ?_)|fail)
     refine HPc.out.mono ?_;rintro e w8 ⟨dv,ov,rfl,hDV,hAV,hB8⟩;obtain⟨tv,rv,kv,nv,sv,rfl,q1,q2,q3,q4,q5⟩:=hDV;obtain⟨xa1,xc1,rfl⟩:=q1.slice;obtain⟨xa2,xc2,rfl⟩:=Kind.slice q2;obtain⟨xa3,xc3,rfl⟩:=q3.slice;obtain⟨xa4,xc4,rfl⟩:=q4.slice;obtain⟨xa5,xc5,rfl⟩:=Kind.slice q5;obtain⟨oa,oc,rfl⟩:=Kind.slice hAV;obtain⟨ob,oo,_,e10,hob,⟨bv10,sv10,kv10,rfl,_⟩,hc10⟩:=Kind.sl_at hAV HA10.out;obtain⟨ob',oo',_,e7,_,⟨bv7,sv7,kv7,rfl,_⟩,hc7⟩:=Kind.sl_at hAV HA7.out;rw[e10] at e7;simp only[Option.some.injEq,Addr.mk.injEq,and_true] at e7;obtain⟨rfl,rfl⟩:=e7;subst e10;obtain⟨i1,hi1⟩:∃i,i=L.length+10:=⟨_,rfl⟩;obtain⟨i4,hi4⟩:∃i,i=L.length+7:=⟨_,rfl⟩;rw[←hi1] at hc10;rw[←hi4] at hc7;have hn7:=HN7.out;have hs1:wrap64 ((n7:Int)-1)=(i1:Int):=by rw[IntWalk.wrap64_in _ ⟨by omega,by omega⟩];omega
     have hs4:wrap64 ((n7:Int)-4)=(i4:Int):=by rw[IntWalk.wrap64_in _ ⟨by omega,by omega⟩];omega
     have hal:=HAl.out;have hb1:(i1:Int)<(ans.length:Int):=by omega
     have hb4:(i4:Int)<(ans.length:Int):=by omega
     obtain⟨w9,hw9⟩:∃w9,w9=w8.alloc (.cells #[.slice xa1 D.told.length xc1,.slice xa2 D.rules.length xc2,.bool D.running,.slice xa3 D.run.known.length xc3,.slice xa4 D.run.fresh.length xc4,.int .i64 D.run.level,.int .i64 D.run.rounds,.bool D.run.done,.slice xa5 D.saved.length xc5] 56):=⟨_,rfl⟩;have hL9:Later w8 w9:=by rw[hw9];exact(Later.refl _).alloc _
     have d0:w9.cell? ⟨ob,oo+i1*8,none⟩=some (.int .i64 0):=by rw[hL9.cell (p:=⟨ob,oo+i1*8,none⟩) hob];exact hc10 0 _ rfl
     have d2:w9.cell? ⟨ob,oo+i1*8+2,none⟩=some (.int .i64 (N:Int)):=by rw[hL9.cell (p:=⟨ob,oo+i1*8+2,none⟩) hob];exact hc10 2 _ rfl
     have d3:w9.cell? ⟨ob,oo+i4*8+2,none⟩=some (.int .i64 ((N:Int)+1)):=by rw[hL9.cell (p:=⟨ob,oo+i4*8+2,none⟩) hob];exact hc7 2 _ rfl
     have hw1:wrap64 ((N:Int)+1)=(N:Int)+1:=IntWalk.wrap64_in _ ⟨by omega,by omega⟩;have HB9:Hid (Below w.heap.size w w9):=below_trans (below_trans HB07.out hB8 HB07.out.size) hL9.below (Nat.le_trans HB07.out.size hB8.size);have HW9:=hide hw9;clear q1 q2 q3 q4 q5 hAV hc10 hc7 hw9 hL9 hB8 HPc HRn hal hn7 hi1 hi4
     go_wp2_with (first|(rw[←HW9.out])|fail)
     go_ret;exact⟨rfl,HB9.out⟩
end Go.Proofs.YtafmbokfkbccaaaGreatDoor
