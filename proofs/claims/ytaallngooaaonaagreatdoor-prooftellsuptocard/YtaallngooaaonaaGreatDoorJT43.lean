import Derived.Test.YtaallngooaaonaaGreatDoorRows
import Derived.Test.YtaallngooaaonaaGreatDoorJT3
import Derived.Test.YtaallngooaaonaaGreatDoorJT42
import Derived.Test.YtaallngooaaonaaGreatDoorJT24
import Derived.Test.YtaallngooaaonaaGreatDoorJT41
import Derived.Shelf.LaysM
import Derived.Test.YtaallngooaaonaaGreatDoorProg
open Go.RowKit Go.Sort Go.ChangeShapes Go.WideShapes Go.ChangeAt Go.Deep
set_option maxRecDepth 100000
namespace Go.Proofs.YtaallngooaaonaaGreatDoor
section
variable {H:Type} {enc:TypeId×Value→H} {W:World}
def XW {α:Type} (enc:TypeId×Value→H) (W:World) (ty:TypeId) (K:aB α) (ok:α→DataW H→Prop):Prop:=
 ∀n cs x,DataW.trod enc Tryz.prog W 0 (fun _=>true) true n ty cs=some x→jq ty x.1→∃a,K.is bf W cs a∧ok a x.1
theorem Et {α:Type} {μ:α→Nat}:∀(l:List α) (ds:List (DataW H)),l.length=ds.length→(∀(i:Nat) a d,l[i]?=some a→ds[i]?=some d→μ a≤Rows.uptoBulk d)→(l.map μ).sum≤Rows.uptoBulkAll ds
 |[],[],_,_=>by simp[Rows.uptoBulkAll]
 |a::l,d::ds,h,hk=>by have h1:=Et l ds (by simpa using h) (fun i a d ha hd=>hk (i+1) a d (by simpa using ha) (by simpa using hd));have h2:=hk 0 a d rfl rfl;simp only[List.map_cons,List.sum_cons,Rows.uptoBulkAll];omega
 |[],_::_,h,_=>by simp at h
 |_::_,[],h,_=>by simp at h
def muT (t:dK):Nat:=t.2.length+1
def muA (a:aI):Nat:=a.name.length+3+(a.terms.map muT).sum
def muR (r:aG):Nat:=muA r.head+(r.body.map muA).sum
end
section
variable {H:Type} {enc:TypeId×Value→H} {W:World}
theorem vK:Tryz.prog.cellsOf 30=4:=by kernel_rfl
theorem Bv:Tryz.prog.cellsOf 28=1:=by kernel_rfl
theorem JY:Tryz.prog.cellsOf 3=1:=by kernel_rfl
theorem CZ:Tryz.prog.bytesOf 30=72:=by kernel_rfl
theorem O9 {α:Type} {K:aB α} {T ty:TypeId} {ok:α→DataW H→Prop} {Q:DataW H→Prop} (hT:Tryz.prog.underlying T=some (.slice ty)) (hc:Tryz.prog.cellsOf ty=K.size) (hby:16≤Tryz.prog.bytesOf ty) (hsz:0<K.size) (E:∀n cs x,DataW.trod enc Tryz.prog W 0 (fun _=>true) true n ty cs=some x→jq ty x.1→Q x.1→∃a,K.is bf W cs a∧ok a x.1)
  {n:Nat} {v:Value} {x:DataW H×List MemPlace} (hf:DataW.trod enc Tryz.prog W 0 (fun _=>true) true n T [v]=some x) (hw:jq T x.1) (hQ:∀es sp,x.1=.slice es sp→∀d∈es,Q d):∃l ds,K.sl bf W v l∧l.length=ds.length∧Rows.uptoBulkAll ds+1≤Rows.uptoBulk x.1∧∀(i:Nat) a d,l[i]?=some a→ds[i]?=some d→ok a d:=by
 rcases open_slice hT hf with⟨hcs,hx0⟩|⟨a,len,cap,m,k,D,Pl,hcs,_,hl,hm,hmm,hx,hel⟩;·simp only[List.cons.injEq,and_true] at hcs;exact⟨[],[],by rw[hcs];exact K.eH _ _ _ _,rfl,by rw[hx0];simp[Rows.uptoBulk,Rows.uptoBulkAll],fun i a d h=>by simp at h⟩
 simp only[List.cons.injEq,and_true] at hcs;simp only[if_true] at hmm;subst hmm;rw[hc] at hel;have hd:x.1=.slice ((List.range len).map D) ((List.range (m-len)).map fun j=>D (len+j)):=by rw[hx]
 have hw2:(decide ((len+(m-len))*Tryz.prog.bytesOf ty≤reachBytes)&&((DataW.weightsAll Tryz.prog ty ((List.range len).map D)).all (· ≤reachBytes)&&(DataW.weightsAll Tryz.prog ty ((List.range (m-len)).map fun j=>D (len+j))).all (· ≤reachBytes)))=true:=by have:=hw;unfold jq at this;rw[hd,DataW.weights,hT] at this;simpa using this
 simp only[Bool.and_eq_true] at hw2;have hlen:len≤8796093022208:=by have h1:(len+(m-len))*Tryz.prog.bytesOf ty≤reachBytes:=of_decide_eq_true hw2.1;have h2:len*16≤(len+(m-len))*Tryz.prog.bytesOf ty:=Nat.mul_le_mul (by omega) hby;unfold reachBytes at h1;omega
 have each:∀i:Fin len,∃z:α,∃cs',W.cells? 0 (a.add (i.1*K.size)) K.size=some cs'∧K.is bf W cs' z∧ok z (D i.1):=fun i=>by obtain⟨cs',k1,k2⟩:=hel i.1 (by omega);obtain⟨z,hz,hk⟩:=E _ _ _ k2 (zM hw2.2.1 _ (List.mem_map.2 ⟨i.1,List.mem_range.2 i.2,rfl⟩)) (hQ _ _ hd _ (List.mem_map.2 ⟨i.1,List.mem_range.2 i.2,rfl⟩));exact⟨z,cs',k1,hz,hk⟩
 refine⟨List.ofFn fun i=>Classical.choose (each i),(List.range len).map D,⟨⟨by simpa using hlen,?_⟩,some a,m,by rw[hcs];simp,fun hne=>?_⟩,by simp,by rw[hd];simp only[Rows.uptoBulk];omega,fun i z d hz hdz=>?_⟩
 ·rw[hcs];show len≤m;omega
 rotate_left
 ·have hi':i<len:=by simpa using(List.getElem?_eq_some_iff.1 hz).1
  rw[List.getElem?_ofFn,dif_pos hi'] at hz
  injection hz with hz
  subst hz;rw[List.getElem?_map,List.getElem?_range hi'] at hdz;simp only[Option.map_some,Option.some.injEq] at hdz;subst hdz;obtain⟨_,_,_,hok⟩:=Classical.choose_spec (each ⟨i,hi'⟩);exact hok
 have h0:0<len:=by refine Nat.pos_of_ne_zero fun e=>hne ?_;subst e;rfl
 have first:∀i:Fin len,∀cs',W.cells? 0 (a.add (i.1*K.size)) K.size=some cs'→∀j u,cs'[j]?=some u→W.cell? ((a.add (i.1*K.size)).add j)=some u:=fun i cs' k1 j u hu=>by obtain⟨h1,_,hcell⟩:=World.cells?_some k1;have hj:j<cs'.length:=(List.getElem?_eq_some_iff.1 hu).1;have:=hcell j (by omega);rw[this];exact hu
 have hplain:∃b off,a=⟨b,off,none⟩:=by
  obtain⟨cs',k0,k1,_⟩:=Classical.choose_spec (each ⟨0,h0⟩);have hl:=K.len k1;have hu:cs'[0]?=some (cs'[0]'(by omega)):=List.getElem?_eq_getElem (by omega);have:=first ⟨0,h0⟩ cs' k0 0 _ hu
  exact sO (W:=W) (v:=cs'[0]'(by omega)) (by simpa[Addr.add] using this)
 obtain⟨b,off,rfl⟩:=hplain;have hlt:b<W.heap.size:=by
  obtain⟨cs',k0,k1,_⟩:=Classical.choose_spec (each ⟨0,h0⟩);have hl:=K.len k1;have hu:cs'[0]?=some (cs'[0]'(by omega)):=List.getElem?_eq_getElem (by omega);have:=first ⟨0,h0⟩ cs' k0 0 _ hu
  rw[Addr.add_lit,Addr.add_lit] at this;exact World.block_lt_of_cell? W _ this
 refine⟨b,off,rfl,trivial,hlt,fun i z hi=>?_⟩;have hi':i<len:=by simpa using(List.getElem?_eq_some_iff.1 hi).1
 rw[List.getElem?_ofFn,dif_pos hi'] at hi
 injection hi with hi
 subst hi;obtain⟨cs',k0,k1,_⟩:=Classical.choose_spec (each ⟨i,hi'⟩);refine⟨cs',k1,fun j u hu=>?_⟩;have:=first ⟨i,hi'⟩ cs' k0 j u hu
 rw[Addr.add_lit,Addr.add_lit] at this;exact this
end
section
variable {H:Type} {enc:TypeId×Value→H} {W:World}
theorem vL:∀(m:Nat) (n:Nat) (cs:List Value) (x:DataW H×List MemPlace),DataW.trod enc Tryz.prog W 0 (fun _=>true) true n 30 cs=some x→jq 30 x.1→Rows.uptoBulk x.1≤m→∃a,(kZ m).is bf W cs a∧cnt m a≤Rows.uptoBulk x.1∧okX m a
 |0,n,cs,x,_,_,hb=>by have:=Mi x.1;omega
 |m+1,n,cs,x,h,hw,hb=>by
  obtain⟨y0,y1,y2,k,hx,hl,h0,h1,h2⟩:=trod_struct3 Tryz.underlying30 h;rw[vK] at hl
  match cs,hl with
  |[c0,c1,c2,c3],_=>
   have e0:Tryz.prog.cellsOf 27=2:=qD;have e1:Tryz.prog.cellsOf 3=1:=JY;have e2:Tryz.prog.cellsOf 28=1:=Bv;simp only[e0,e1,e2,List.drop_zero,List.drop_succ_cons,List.take_succ_cons,List.take_zero] at h0 h1 h2;rw[hx] at hb hw⊢;unfold jq at hw;rw[DataW.weights,Tryz.underlying30] at hw;simp only[List.map_cons,List.map_nil,DataW.weightsEach,List.all_append,Bool.and_eq_true] at hw;have hw0:jq 27 y0.1:=hw.1;have hw2:jq 28 y2.1:=hw.2.2.1;simp only[Rows.uptoBulk,Rows.uptoBulkAll] at hb⊢;obtain⟨f,⟨fs,hfe,hfs⟩,hft⟩:=tu _ _ _ h0 hw0;obtain⟨r,hr,_⟩:=DataW.trod_int Tryz.underlying3 h1;obtain⟨l,ds,g1,g2,g3,g4⟩:=O9 (K:=kZ m) (ok:=fun a d=>cnt m a≤Rows.uptoBulk d∧okX m a) (Q:=fun d=>Rows.uptoBulk d≤m) Tryz.underlying28 (by rw[vK,Ac]) (by rw[CZ];decide) (by rw[Ac];decide) (fun n cs x h hw hq=>vL m n cs x h hw hq) h2 hw2 (fun es sp he d hd=>by have q1:=JX hd;rw[he] at hb;simp only[Rows.uptoBulk] at hb;omega)
   have hsum:=Et (μ:=cnt m) l ds g2 fun i a d h1 h2=>(g4 i a d h1 h2).1;refine⟨.mk f r l,⟨fs,c3,?_,hfs,g1⟩,?_,hft,fun k hk=>?_⟩;·simp only[List.cons.injEq,and_true] at hfe hr;show[c0,c1,c2,c3]=[.string f.1,fs,.int .i64 r,c3];rw[hfe.1,hfe.2,hr]
   ·show 1+(l.map (cnt m)).sum≤_;omega
   have hk:k∈l:=hk;obtain⟨i,hi,e⟩:=List.getElem_of_mem hk;exact(g4 i k _ (by rw[List.getElem?_eq_getElem hi,e]) (List.getElem?_eq_getElem (by omega))).2
theorem Gh (M:Nat) {b0:Nat} {v:Value} {d:DataW H} {p:List MemPlace} (hv:Value.okWide Tryz.prog W .any b0 30 v) (h:DataW.Trod enc Tryz.prog W 0 (fun _=>true) true 30 v d p) (hw:jq 30 d) (hb:Rows.uptoBulk d≤M+1):∃x,lV M bf W v x∧cnt (M+1) x≤M+1∧okX (M+1) x:=by
 obtain⟨cs,rfl,hsz⟩:=okWide_struct Tryz.underlying30 hv;obtain⟨fuel,hf⟩:=h;obtain⟨x,⟨s,kv,e,h1,h2⟩,hc,ho⟩:=vL (M+1) fuel cs.toList (d,p) (by simpa[Value.cells] using hf) hw hb;refine⟨x,⟨s,kv,?_,h1,h2⟩,Nat.le_trans hc hb,ho⟩;have:cs=#[.string x.fact.1,s,.int .i64 x.rule,kv]:=by
  cases cs
  simp_all
 rw[this]
theorem JZ {b0:Nat} {v:Value} {d:DataW H} {p:List MemPlace} (hv:Value.okWide Tryz.prog W .any b0 27 v) (h:DataW.Trod enc Tryz.prog W 0 (fun _=>true) true 27 v d p) (hw:jq 27 d):∃(f:aA) (s:Value),v=.agg #[.string f.1,s]∧bsK.sl bf W s f.2∧Pe f:=by
 obtain⟨cs,rfl,hsz⟩:=okWide_struct Tryz.underlying27 hv;obtain⟨fuel,hf⟩:=h;obtain⟨f,⟨s,e,h1⟩,h2⟩:=tu fuel cs.toList (d,p) (by simpa[Value.cells] using hf) hw;refine⟨f,s,?_,h1,h2⟩;have:cs=#[.string f.1,s]:=by cases cs;simp_all
 rw[this]
theorem Bw {a:aI} (h:okA a):CG a:=by refine⟨by have:=h.1;unfold maxLen at this;omega,fun t ht=>?_⟩;have:=h.2 t ht;simpa[okT,Q7,maxLen] using this
theorem J2 {r:aG} (h:okR r):Bg r:=⟨Bw h.1,fun a ha=>Bw (h.2 a ha)⟩
theorem Nb {f:aN} (h:Pe f):okF f:=⟨by simpa[okS,maxLen] using h.1,fun s hs=>by simpa[okS,maxLen] using h.2 s hs⟩
theorem Pb {l:List aN} (h:∀f∈l,Pe f):∀k,okF (l.getD k aC):=fun k=>by
 rw[List.getD_eq_getElem?_getD];cases e:l[k]? with
 |none=>exact⟨by simp[aC],fun s hs=>by simp[aC] at hs⟩
 |some f=>exact Nb (h f (List.mem_of_getElem? e))
end
end Go.Proofs.YtaallngooaaonaaGreatDoor
section
namespace Go.Proofs
open Go.Shelf
end Go.Proofs
end
