import Derived.Test.YthngiikhgplldaaGreatDoorJR4
import Derived.RegionTactic
import Derived.BigRegion
import Derived.Deep.RegionLaw
import Derived.Test.YthngiikhgplldaaGreatDoorJR2
import Derived.Deep.LoopGhost
import Derived.BigQuiet
import Derived.Shelf.SlSortCmp.QuietGrown
import Derived.Deep.QuietTactic
open Go.RowKit Go.Sort
set_option maxHeartbeats 1000000
set_option maxRecDepth 100000
namespace Go.Proofs.YthngiikhgplldaaGreatDoor
theorem sV:∃i,Tryz.prog.info? 9=some i∧i.zero=some (.string ByteArray.empty)∧i.size=1∧i.bytes=16:=⟨Tryz.t9,by kernel_rfl,by kernel_rfl,by kernel_rfl,by kernel_rfl⟩
theorem oq:∃i,Tryz.prog.info? 50=some i∧i.zero=some (.agg #[.string ByteArray.empty,.slice none 0 0])∧i.size=2∧i.bytes=40:=⟨Tryz.t50,by kernel_rfl,by kernel_rfl,by kernel_rfl,by kernel_rfl⟩
theorem wZ (w:World) (b off cap:Nat) (l:List ByteArray) (hl:l.length≤8796093022208) (h0:l≠[]) (hc:∀i,i<l.length→w.cell? ⟨b,off+i,none⟩=some (.string (l.getD i ByteArray.empty))):
  ∃cp arr,(Builtin.append_ #[48,48] 48 #[.slice none 0 0,.slice (some ⟨b,off,none⟩) l.length cap]).run Tryz.prog w=.ok (.slice (some ⟨w.heap.size,0,none⟩) l.length cp) (w.drew.alloc (.cells arr 9))∧
   ∀i,i<l.length→arr[i]?=some (.string (l.getD i ByteArray.empty)):=by
 obtain⟨i,i1,i2,i3,i4⟩:=sV;have hn:0<l.length:=List.length_pos_iff.2 h0;have hcells:∀j u,(l.map Value.string)[j]?=some u→w.cell? ((⟨b,off,none⟩:Addr).add j)=some u:=by
  intro j u hu;rw[List.getElem?_map] at hu;cases hj:l[j]? with
  |none=>rw[hj] at hu;cases hu
  |some s=>
   rw[hj] at hu;have hlt:j<l.length:=(List.getElem?_eq_some_iff.1 hj).1;have:=hc j hlt;rw[List.getD_eq_getElem?_getD,hj] at this;rw[Addr.add_lit];rw[this];simpa using hu
 have hr:=run_append_nil (P:=Tryz.prog) w 48 48 9 i (.string ByteArray.empty) Tryz.underlying48 i1 i2 ⟨b,off,none⟩ l.length cap (l.map Value.string) (by rw[i3];simp) hcells (by omega) (by omega) (by rw[i4];omega);refine⟨_,_,hr,fun k hk=>?_⟩;rw[Array.getElem?_append_left (by simpa using hk)];simp[hk]
theorem fP {P:Program} {ops:Array Oper} {o:Oper} {a:Act} {w:World} {K:Act→World→Prop} {Q:Exit→Act→World→Prop} {E:Prop}
  (hg:o.guard=none) (s x:Operand) (t:TypeId) (hop:o.op=Op.call {callee:=Callee.builtin Builtin.append,args:=#[s,x],argTypes:=#[t,t]})
  (v1 v2 v':Value) (w':World) (hs:a.eval s=v1) (hx:a.eval x=v2) (hrun:(Builtin.append_ #[t,t] o.type #[v1,v2]).run P w=.ok v' w') (hK:K (a.put o.dst v') w'):
  if Region.wanted o (yielded ops a.tmps)=true then Oper.wp P o a w K Q else E:=by
 have hw:Region.wanted o (yielded ops a.tmps)=true:=by simp[Region.wanted,hg]
 rw[if_pos hw];unfold Oper.wp;simp[execOp,hop,resolve,invoke,builtin,hs,hx,hrun,Result.andThen];exact hK
theorem Dl (w:World) (arr:Array Value) (l:List ByteArray) (cp:Nat) (t:TypeId) (hl:l.length≤8796093022208) (h:∀i,i<l.length→arr[i]?=some (.string (l.getD i ByteArray.empty))):
  Strs (w.alloc (.cells arr t)) (.slice (some ⟨w.heap.size,0,none⟩) l.length cp) l:=
 ⟨hl,_,cp,rfl,fun _=>⟨w.heap.size,0,rfl,by simp,fun i hi=>by rw[Nat.zero_add,cell_of_row _ w.heap.size i arr t (0,0) (heap_alloc_new w _)];exact h i hi⟩⟩
theorem xg (n:ByteArray) (l:List ByteArray) (b off cap:Nat) (w:World) (hne:l≠[]) (h0:l.length≤8796093022208) (hb:b<w.heap.size) (hcell:∀i,i<l.length→w.cell? ⟨b,off+i,none⟩=some (.string (l.getD i ByteArray.empty))):
  Calls Tryz.prog 54 #[.agg #[.string n,.slice (some ⟨b,off,none⟩) l.length cap]] w fun e w'=>∃s,e=.returned (.agg #[.string n,s])∧Strs w' s l∧aj w w'∧∀k,s.ownBlock=some k→w.heap.size≤k∧k<w'.heap.size:=by
 have hL:aj w ((w.alloc (.cells #[.string n,.slice (some ⟨b,off,none⟩) l.length cap] 50)).alloc (.cells #[.string {data:=#[]},.slice none 0 0] 50)).drew:=(by repeat (first|exact aj.refl _|assumption|refine aj.drewN ?_ _|refine aj.drew ?_|refine aj.alloc ?_ _|refine aj.grow ?_ _));obtain⟨cp,arr,hr,harr⟩:=wZ ((w.alloc (.cells #[.string n,.slice (some ⟨b,off,none⟩) l.length cap] 50)).alloc (.cells #[.string {data:=#[]},.slice none 0 0] 50)).drew b off cap l h0 hne (fun i hi=>by rw[hL.cell (p:=⟨b,off+i,none⟩) hb];exact hcell i hi);have HA:=au harr;clear harr hcell hL
 go_enter Tryz.func54,Tryz.ntmps54
 go_wp2
 go_region_law (refine fP rfl (.const (.slice none 0 0)) (.tmp 6) 48 rfl _ _ _ _ (by simp[Act.eval]) (by simp[Act.eval]) hr ?_)
 all_goals
  clear hr;go_wp2;refine bodyPost_ret (v:=.agg #[.string n,.slice (some ⟨w.heap.size+1+1,0,none⟩) l.length cp]) (by simp[results,Tryz.results54,go_sem]) rfl ⟨_,rfl,?_,(by repeat (first|exact aj.refl _|assumption|refine aj.drewN ?_ _|refine aj.drew ?_|refine aj.alloc ?_ _|refine aj.grow ?_ _)),?_⟩
  ·have hs:=Dl ((w.alloc (.cells #[.string n,.slice (some ⟨b,off,none⟩) l.length cap] 50)).alloc (.cells #[.string n,.slice (some ⟨w.heap.size+1+1,0,none⟩) l.length cp] 50)) arr l cp 9 h0 HA.out;have e:((w.alloc (.cells #[.string n,.slice (some ⟨b,off,none⟩) l.length cap] 50)).alloc (.cells #[.string n,.slice (some ⟨w.heap.size+1+1,0,none⟩) l.length cp] 50)).heap.size=w.heap.size+1+1:=by simp
   rw[e] at hs;exact hs.later (by repeat (first|exact aj.refl _|assumption|refine aj.drewN ?_ _|refine aj.drew ?_|refine aj.alloc ?_ _|refine aj.grow ?_ _))
  ·intro k hk;simp[Value.ownBlock] at hk;simp;omega
theorem xk (w:World) (a:Option Addr) (cap:Nat):
  (Builtin.append_ #[48,48] 48 #[.slice none 0 0,.slice a 0 cap]).run Tryz.prog w=.ok (.slice none 0 0) w:=by
 obtain⟨i,i1,i2,i3,i4⟩:=sV;cases a with
 |none=>simp[Builtin.append_,run_underlying Tryz.underlying48,sizeOf,typeInfo,i1,Builtin.lenOf,Builtin.firstCells]
 |some a=>simp[Builtin.append_,run_underlying Tryz.underlying48,sizeOf,typeInfo,i1,Builtin.lenOf,Builtin.firstCells,loadCells,loadCellsFrom]
theorem xq (n:ByteArray) (a:Option Addr) (cap:Nat) (w:World):
  Calls Tryz.prog 54 #[.agg #[.string n,.slice a 0 cap]] w fun e w'=>∃s,e=.returned (.agg #[.string n,s])∧Strs w' s []∧aj w w'∧∀k,s.ownBlock=some k→w.heap.size≤k∧k<w'.heap.size:=by
 go_enter Tryz.func54,Tryz.ntmps54
 go_wp2
 go_region_law (refine fP rfl (.const (.slice none 0 0)) (.tmp 6) 48 rfl (.slice none 0 0) (.slice a 0 cap) (.slice none 0 0) _ (by simp[Act.eval]) (by simp[Act.eval]) (xk _ _ _) ?_)
 all_goals
  go_wp2;refine bodyPost_ret (v:=.agg #[.string n,.slice none 0 0]) (by simp[results,Tryz.results54,go_sem]) rfl ⟨_,rfl,⟨by simp,none,0,rfl,fun h=>absurd rfl h⟩,(by repeat (first|exact aj.refl _|assumption|refine aj.drewN ?_ _|refine aj.drew ?_|refine aj.alloc ?_ _|refine aj.grow ?_ _)),?_⟩;intro k hk;simp[Value.ownBlock] at hk
theorem copied (v:Value) (f:aG) (w:World) (h:dh w v f):
  Calls Tryz.prog 54 #[v] w fun e w'=>∃s,e=.returned (.agg #[.string f.1,s])∧Strs w' s f.2∧aj w w'∧∀k,s.ownBlock=some k→w.heap.size≤k∧k<w'.heap.size:=by
 obtain⟨s,rfl,h0,a,cap,rfl,hc⟩:=h;obtain⟨n,l⟩:=f;dsimp only at*;cases l with
 |nil=>exact xq n a cap w
 |cons x l=>
  obtain⟨b,off,rfl,hb,hcell⟩:=hc (by simp);exact xg n (x::l) b off cap w (by simp) h0 hb hcell
theorem d9 {P:Program} (w:World) (base:Nat) (t ty e:TypeId) (i:TypeInfo) (z:Value) (size bytes:Nat) (ht:P.underlying t=some (.slice e)) (hi:P.info? e=some i) (hz:i.zero=some z)
  (hsize:i.size=size) (hby:i.bytes=bytes) (hzs:z.cells.size=size) (hsz:0<size)
  (v:Value) (n:Nat) (xs:List Value) (hown:w.ownsRow base e size v n xs)
  (a:Addr) (m c:Nat) (news:List Value) (hl:news.length=m*size) (hnews:∀j u,news[j]?=some u→w.cell? (a.add j)=some u) (h1:∀u∈news,u.oneCell'=true)
  (h63:n+m≤maxLen) (hbytes:(n+m)*bytes≤140737488355328) (hbase:base≤w.heap.size):
  ∃v' w',(Builtin.append_ #[t,t] ty #[v,.slice (some a) m c]).run P w=.ok v' w'∧w'.ownsRow base e size v' (n+m) (xs++news)∧w.grownBy w' v.ownBlock∧w.drawn≤w'.drawn∧
   ∀k,v'.ownBlock=some k→v.ownBlock=some k∨w.heap.size≤k:=by
 obtain⟨v',w',hrun,r1,r2,_⟩:=run_append_own (P:=P) w base t ty e i z size bytes ht hi hz hsize hby hzs hsz v n xs hown a m c news hl hnews h1 h63 hbytes hbase;refine⟨v',w',hrun,r1,r2,?_⟩;subst hsize;subst hby;have h63':n+m≤9223372036854775807:=by simp only[maxLen] at h63;omega
 rcases hown.2 with⟨rfl,rfl⟩|⟨g,cap,cur,rfl,hbg,hg,hnc,hcm,hcs,htake⟩
 ·by_cases hm:m=0
  ·subst hm;have hn:news=[]:=List.eq_nil_of_length_eq_zero (by simpa using hl);subst hn;simp[Builtin.append_,run_underlying ht,sizeOf,typeInfo,hi,Builtin.lenOf,Builtin.firstCells,loadCells,loadCellsFrom] at hrun;obtain⟨rfl,rfl⟩:=hrun;exact⟨Nat.le_refl _,fun k hk=>Or.inl hk⟩
  rw[run_append_nil (P:=P) w t ty e i z ht hi hz a m c news hl hnews (by omega) (by omega) (by have hb:=hbytes;simp only[Nat.zero_add] at hb;omega)] at hrun;simp only[Result.ok.injEq] at hrun;obtain⟨rfl,rfl⟩:=hrun;exact⟨Nat.le_succ _,fun k hk=>Or.inr (by simp[Value.ownBlock] at hk;omega)⟩
 by_cases hroom:n+m≤cap
 ·have hfit:n*i.size+news.length≤cur.size:=by rw[hl,hcs,←Nat.add_mul];exact Nat.mul_le_mul_right _ hroom
  rw[run_append_room (P:=P) w t ty e i ht hi g n cap cur hg a m c news hl hnews h1 hroom hfit] at hrun;simp only[Result.ok.injEq] at hrun;obtain⟨rfl,rfl⟩:=hrun;exact⟨Nat.le_refl _,fun k hk=>Or.inl (by simpa[Value.ownBlock] using hk)⟩
 rw[run_append_grow (P:=P) w t ty e i z ht hi hz ⟨g,0,none⟩ n cap xs hown.1 (hown.cells (g:=g) rfl) a m c news hl hnews (by omega) (by omega) (growslice_fits (by omega) hbytes)] at hrun;simp only[Result.ok.injEq] at hrun;obtain⟨rfl,rfl⟩:=hrun;exact⟨Nat.le_succ _,fun k hk=>Or.inr (by simp[Value.ownBlock] at hk;omega)⟩
theorem wpList_append_run {P:Program} {w:World} {ops:Array Oper} {rest:List Oper} {o:Oper} {a:Act} {Q:Exit→Act→World→Prop} (hgd:o.guard=none) (s x:Operand) (t:TypeId)
  (ho:o.op=.call {callee:=.builtin .append,args:=#[s,x],argTypes:=#[t,t]}) (v1 v2 v':Value) (w':World) (hs:a.eval s=v1) (hx:a.eval x=v2)
  (hrun:(Builtin.append_ #[t,t] o.type #[v1,v2]).run P w=.ok v' w') (h:wpList P ops Q rest (a.put o.dst v') w'):wpList P ops Q (o::rest) a w:=
 wpList_plain hgd fun _ hK=>by unfold Oper.wp execOp;simp only[ho,resolve,invoke,builtin,Sem.run_bind,Sem.run_pure,Result.andThen_ok,List.map_toArray,List.map_cons,List.map_nil,hs,hx,hrun];exact hK _ _ h
structure Only (lo hi:Nat) (w w':World):Prop where
 os:w'.os=w.os
 tape:w'.tape=w.tape
 output:w'.output=w.output
 drawn:w.drawn≤w'.drawn
 size:w.heap.size≤w'.heap.size
 block:∀k,k<w.heap.size→k<lo∨hi≤k→w'.heap[k]?=w.heap[k]?
theorem Only.refl (lo hi:Nat) (w:World):Only lo hi w w:=⟨rfl,rfl,rfl,Nat.le_refl _,Nat.le_refl _,fun _ _ _=>rfl⟩
theorem Only.trans {lo hi:Nat} {a b c:World} (h:Only lo hi a b) (k:Only lo hi b c):Only lo hi a c:=
 ⟨k.os.trans h.os,k.tape.trans h.tape,k.output.trans h.output,Nat.le_trans h.drawn k.drawn,Nat.le_trans h.size k.size,fun i hi' ho=>(k.block i (Nat.lt_of_lt_of_le hi' h.size) ho).trans (h.block i hi' ho)⟩
theorem aj.only {lo hi:Nat} {a b:World} (h:aj a b):Only lo hi a b:=
 ⟨h.below.os,h.below.tape,h.below.output,h.drawn,h.size,fun _ hk _=>h.block hk⟩
theorem Only.later {lo hi:Nat} {w0 a b:World} (h:Only lo hi a b) (h0:aj w0 a) (hl:w0.heap.size≤lo):aj w0 b:=
 aj.of_below ⟨h.os.trans h0.below.os,h.tape.trans h0.below.tape,h.output.trans h0.below.output,Nat.le_trans h0.size h.size,fun k hk=>(h.block k (Nat.lt_of_lt_of_le hk h0.size) (Or.inl (by omega))).trans (h0.block hk)⟩ (Nat.le_trans h0.drawn h.drawn)
theorem Only.cell {lo hi:Nat} {a b:World} (h:Only lo hi a b) {p:Addr} (hp:p.block<a.heap.size) (ho:p.block<lo∨hi≤p.block):b.cell? p=a.cell? p:=World.cell?_of_block (w:=a) (h.block _ hp ho)
theorem Only.grown {lo hi lo' hi':Nat} {a b c:World} {row:Option Nat} (h:Only lo hi a b) (hg:b.grownBy c row) (hd:b.drawn≤c.drawn) (hr:∀k,row=some k→a.heap.size≤k) (_:lo'=lo) (_:hi'=hi):Only lo' hi' a c:=by
 subst lo' hi';exact⟨hg.os.trans h.os,hg.tape.trans h.tape,hg.output.trans h.output,Nat.le_trans h.drawn hd,Nat.le_trans h.size hg.size,
  fun k hk ho=>(hg.block k (Nat.lt_of_lt_of_le hk h.size) (fun e=>by have:=hr k e.symm;omega)).trans (h.block k hk ho)⟩
def dR (w:World) (base:Nat) (v:Value) (l:List aG):Prop:=
 ∃xs,w.ownsRow base 50 2 v l.length xs∧∀i,i<l.length→xs[i*2]?=some (.string (l.getD i aA).1)∧∃s,xs[i*2+1]?=some s∧Strs w s (l.getD i aA).2∧∀k,s.ownBlock=some k→base≤k∧k<w.heap.size∧v.ownBlock≠some k
theorem dR.nil (w:World) (base:Nat):dR w base (.slice none 0 0) []:=⟨[],World.ownsRow_nil w base 50 2,fun i hi=>by simp at hi⟩
theorem Strs.kept {w w':World} {s:Value} {l:List ByteArray} (h:Strs w s l) (hs:w.heap.size≤w'.heap.size) (hk:∀k,s.ownBlock=some k→w'.heap[k]?=w.heap[k]?):Strs w' s l:=by obtain⟨h0,a,cap,rfl,h1⟩:=h;refine⟨h0,a,cap,rfl,fun hl=>?_⟩;obtain⟨b,off,rfl,hb,hc⟩:=h1 hl;exact⟨b,off,rfl,Nat.lt_of_lt_of_le hb hs,fun i hi=>by rw[World.cell?_of_block (w:=w) (hk b rfl)];exact hc i hi⟩
theorem Strs.block_lt {w:World} {s:Value} {l:List ByteArray} (h:Strs w s l) (hl:l≠[]):∀k,s.ownBlock=some k→k<w.heap.size:=by obtain⟨h0,a,cap,rfl,h1⟩:=h;obtain⟨b,off,rfl,hb,_⟩:=h1 hl;intro k hk;simp[Value.ownBlock] at hk;omega
theorem Strs.nil {w w':World} {s:Value} (h:Strs w s []):Strs w' s []:=by obtain⟨h0,a,cap,rfl,_⟩:=h;exact⟨h0,a,cap,rfl,fun e=>absurd rfl e⟩
theorem Strs.kept' {w w':World} {s:Value} {l:List ByteArray} (h:Strs w s l) (hs:w.heap.size≤w'.heap.size) (hk:∀k,k<w.heap.size→s.ownBlock=some k→w'.heap[k]?=w.heap[k]?):Strs w' s l:=by
 by_cases hl:l=[]
 ·subst hl;exact h.nil
 exact h.kept hs fun k e=>hk k (h.block_lt hl k e) e
theorem dR.only {lo hi base:Nat} {w w':World} {v:Value} {l:List aG} (h:dR w base v l) (k:Only lo hi w w') (hb:hi≤base):dR w' base v l:=by
 obtain⟨xs,ho,hx⟩:=h;refine⟨xs,⟨ho.1,?_⟩,fun i hi'=>?_⟩
 ·rcases ho.2 with e|⟨g,cap,cur,rfl,hbg,hg,r⟩;·exact Or.inl e
  exact Or.inr ⟨g,cap,cur,rfl,hbg,by rw[k.block g (Array.getElem?_eq_some_iff.1 hg).1 (Or.inr (by omega))];exact hg,r⟩
 obtain⟨c1,s,c2,c3,c4⟩:=hx i hi';exact⟨c1,s,c2,c3.kept' k.size fun j hj e=>k.block j hj (Or.inr (by have:=c4 j e;omega)),fun j e=>⟨(c4 j e).1,Nat.lt_of_lt_of_le (c4 j e).2.1 k.size,(c4 j e).2.2⟩⟩
theorem dR.later {base:Nat} {w w':World} {v:Value} {l:List aG} (h:dR w base v l) (k:aj w w'):dR w' base v l:=h.only (lo:=0) (hi:=0) k.only (Nat.zero_le _)
theorem dR.facts {base:Nat} {w:World} {v:Value} {l:List aG} (h:dR w base v l) (hl:l.length≤3518437208883):Facts w v l:=by
 obtain⟨xs,ho,hx⟩:=h;rcases ho.2 with⟨rfl,e⟩|⟨g,cap,cur,rfl,hbg,hg,_,_,hcs,htake⟩;·have:l=[]:=List.eq_nil_of_length_eq_zero e;subst this;exact⟨hl,none,0,rfl,fun e=>absurd rfl e⟩
 refine⟨hl,_,cap,rfl,fun _=>⟨g,0,rfl,(Array.getElem?_eq_some_iff.1 hg).1,fun i hi=>?_⟩⟩;obtain⟨c1,s,c2,c3,_⟩:=hx i hi;have cellOf:∀j u,xs[j]?=some u→w.cell? ⟨g,0+j,none⟩=some u:=fun j u hu=>by
  have:=ho.cells (g:=g) rfl j u hu
  rwa [Addr.add_lit] at this
 exact⟨cellOf _ _ c1,s,by rw[Nat.add_assoc];exact cellOf _ _ c2,c3⟩
theorem dR.append {base:Nat} {w:World} {v:Value} {l:List aG} (h:dR w base v l) (f:aG) (s:Value) (hs:Strs w s f.2) (hsb:∀k,s.ownBlock=some k→base≤k∧k<w.heap.size∧v.ownBlock≠some k) (hl:l.length+1≤3518437208883) (hbase:base≤w.heap.size) (h1:s.oneCell'=true):
  ∃v' w',(Builtin.append_ #[24,24] 24 #[v,.slice (some ⟨w.heap.size,0,none⟩) 1 1]).run Tryz.prog (w.alloc (.cells #[.string f.1,s] 50))=.ok v' w'∧dR w' base v' (l++[f])∧(w.alloc (.cells #[.string f.1,s] 50)).grownBy w' v.ownBlock∧w.drawn≤w'.drawn:=by
 obtain⟨xs,ho,hx⟩:=h;obtain⟨i,i1,i2,i3,i4⟩:=oq;have hnews:∀j u,([.string f.1,s]:List Value)[j]?=some u→(w.alloc (.cells #[.string f.1,s] 50)).cell? ((⟨w.heap.size,0,none⟩:Addr).add j)=some u:=by intro j u hu;rw[Addr.add_lit,Nat.zero_add,cell_of_row _ w.heap.size j #[.string f.1,s] 50 (0,0) (heap_alloc_new w _)];simpa using hu
 obtain⟨v',w',hrun,r1,r2,r3,r4⟩:=d9 (P:=Tryz.prog) (w.alloc (.cells #[.string f.1,s] 50)) base 24 24 50 i _ 2 40 Tryz.underlying24 i1 i2 i3 i4 rfl (by omega) v l.length xs (ho.alloc _) ⟨w.heap.size,0,none⟩ 1 1 [.string f.1,s] rfl hnews
  (by intro u hu;simp at hu;rcases hu with rfl|rfl <;> first|rfl|exact h1) (by simp only[maxLen];omega) (by omega) (by simp;omega)
 refine⟨v',w',hrun,⟨xs++[.string f.1,s],by simpa using r1,fun j hj=>?_⟩,r2,r3⟩;have hxl:xs.length=l.length*2:=ho.1;have keep:∀{s':Value} {a:List ByteArray},Strs w s' a→(∀k,k<w.heap.size→s'.ownBlock=some k→v.ownBlock≠some k)→Strs w' s' a:=fun hs' hne=>
  hs'.kept' (Nat.le_trans (by simp) r2.size) fun k hk e=>(r2.block k (by simp;omega) (fun e'=>hne k hk e e'.symm)).trans (Below.heap_alloc w _ k hk)
 have own':∀k,v'.ownBlock=some k→v.ownBlock=some k∨w.heap.size<k:=fun k hk=>by
  rcases r4 k hk with e|e;·exact Or.inl e
  exact Or.inr (by simp at e;omega)
 by_cases hjl:j<l.length
 ·obtain⟨c1,s',c2,c3,c4⟩:=hx j hjl;have e:(l++[f]).getD j aA=l.getD j aA:=by
   rw[List.getD_eq_getElem?_getD,List.getD_eq_getElem?_getD,List.getElem?_append_left hjl]
  rw[e];refine⟨by rw[List.getElem?_append_left (by omega)];exact c1,s',by rw[List.getElem?_append_left (by omega)];exact c2,keep c3 fun k _ e=>(c4 k e).2.2,fun k hk=>⟨(c4 k hk).1,by have:=(c4 k hk).2.1;have:=r2.size;simp at this;omega,fun e=>?_⟩⟩;rcases own' k e with e'|e'
  ·exact(c4 k hk).2.2 e'
  have:=(c4 k hk).2.1;omega
 have hj':j=l.length:=by simp at hj;omega
 subst hj';have e:(l++[f]).getD l.length aA=f:=by rw[List.getD_eq_getElem?_getD,List.getElem?_append_right (Nat.le_refl _)];simp
 rw[e];refine⟨by rw[List.getElem?_append_right (by omega),hxl];simp,s,by rw[List.getElem?_append_right (by omega),hxl];simp,keep hs fun k _ e=>(hsb k e).2.2,fun k hk=>⟨(hsb k hk).1,by have:=(hsb k hk).2.1;have:=r2.size;simp at this;omega,fun e=>?_⟩⟩;rcases own' k e with e'|e'
 ·exact(hsb k hk).2.2 e'
 have:=hsb k hk;omega
def iO (w:World) (base:Nat) (v:Value) (l:List aG):Prop:=
 ∃xs,w.ownsRow base 50 2 v l.length xs∧∀i,i<l.length→xs[i*2]?=some (.string (l.getD i aA).1)∧∃s,xs[i*2+1]?=some s∧Strs w s (l.getD i aA).2∧∀k,s.ownBlock=some k→(l.getD i aA).2≠[]→k<base
theorem Facts.cells {w:World} {a:Addr} {n cap:Nat} {l:List aG} (h:Facts w (.slice (some a) n cap) l):
  ∃xs:List Value,xs.length=l.length*2∧(∀j u,xs[j]?=some u→w.cell? (a.add j)=some u)∧(∀u∈xs,u.oneCell'=true)∧
   ∀i,i<l.length→xs[i*2]?=some (.string (l.getD i aA).1)∧∃s,xs[i*2+1]?=some s∧Strs w s (l.getD i aA).2:=by
 obtain⟨h0,a',cap',e,h1⟩:=h;simp only[Value.slice.injEq] at e;obtain⟨rfl,rfl,rfl⟩:=e
 by_cases hl:l=[]
 ·subst hl;exact⟨[],rfl,fun j u h=>by simp at h,fun u h=>by simp at h,fun i hi=>by simp at hi⟩
 obtain⟨b,off,e,hb,hc⟩:=h1 hl;simp only[Option.some.injEq] at e;subst e;have hsv:∀i:Fin l.length,∃s,w.cell? ⟨b,off+i.1*2+1,none⟩=some s∧Strs w s (l.getD i.1 aA).2:=fun i=>(hc i.1 i.2).2;have key:∀j,j<l.length*2→∃u,w.cell? ⟨b,off+j,none⟩=some u∧u.oneCell'=true:=fun j hj=>by
  have h3:=hc (j/2) (by omega);rcases Nat.mod_two_eq_zero_or_one j with hm|hm
  ·exact⟨.string (l.getD (j/2) aA).1,by rw[←h3.1,show off+j/2*2=off+j by omega],rfl⟩
  obtain⟨s,c2,c3⟩:=h3.2;refine⟨s,by rw[←c2,show off+j/2*2+1=off+j by omega],?_⟩;obtain⟨a,c,rfl⟩:=bP c3
  rfl
 have get:∀j,(List.ofFn fun j:Fin (l.length*2)=>Classical.choose (key j.1 j.2))[j]?=if h:j<l.length*2 then some (Classical.choose (key j h)) else none:=fun j=>by rw[List.getElem?_ofFn]
 refine⟨List.ofFn fun j:Fin (l.length*2)=>Classical.choose (key j.1 j.2),by simp,fun j u hu=>?_,fun u hu=>?_,fun i hi=>?_⟩
 ·rw[get] at hu;split at hu;·rename_i hj;rw[Addr.add_lit,(Classical.choose_spec (key j hj)).1];exact hu
  cases hu
 ·rw[List.mem_ofFn] at hu;obtain⟨j,rfl⟩:=hu;exact(Classical.choose_spec (key j.1 j.2)).2
 obtain⟨c1,s,c2,c3⟩:=hc i hi;have e0:=(Classical.choose_spec (key (i*2) (by omega))).1;have e1:=(Classical.choose_spec (key (i*2+1) (by omega))).1;refine⟨?_,s,?_,c3⟩;·rw[get,dif_pos (by omega),←e0];exact c1
 rw[get,dif_pos (by omega),←e1,←Nat.add_assoc];exact c2
theorem mX (w:World) (base:Nat) (v:Value) (n:Nat) (xs:List Value) (cap:Nat) (ho:w.ownsRow base 50 2 v n xs):
  (Builtin.append_ #[24,24] 24 #[v,.slice none 0 cap]).run Tryz.prog w=.ok v w:=by
 obtain⟨i,i1,i2,i3,i4⟩:=oq;rcases ho.2 with⟨rfl,rfl⟩|⟨g,c,cur,rfl,_,_,hnc,_⟩;·simp[Builtin.append_,run_underlying Tryz.underlying24,sizeOf,typeInfo,i1,Builtin.lenOf,Builtin.firstCells]
 simp[Builtin.append_,run_underlying Tryz.underlying24,sizeOf,typeInfo,i1,Builtin.lenOf,Builtin.firstCells,hnc,storeCells]
def l5 (w0 w:World) (a:Addr) (m:List aG):Prop:=
 ∃ys:List Value,ys.length=m.length*2∧(∀j u,ys[j]?=some u→w.cell? (a.add j)=some u)∧(∀u∈ys,u.oneCell'=true)∧
  ∀i,i<m.length→ys[i*2]?=some (.string (m.getD i aA).1)∧∃s,ys[i*2+1]?=some s∧Strs w0 s (m.getD i aA).2
theorem l5.of {w0 w:World} {a:Addr} {n cap:Nat} {m:List aG} (hm:Facts w0 (.slice (some a) n cap) m) (hL:aj w0 w):l5 w0 w a m:=by obtain⟨ys,y1,y2,y3,y4⟩:=hm.cells;exact⟨ys,y1,fun j u hu=>by have hc:=y2 j u hu;rw[hL.cell (World.block_lt_of_cell? w0 _ hc)];exact hc,y3,y4⟩
theorem iO.dJ {w0 w:World} {v:Value} {l m:List aG} {a:Addr} {cap:Nat} (h:iO w w0.heap.size v l) (hL:aj w0 w) (hm:l5 w0 w a m) (hl:l.length+m.length≤3518437208883):
  ∃v' w',(Builtin.append_ #[24,24] 24 #[v,.slice (some a) m.length cap]).run Tryz.prog w=.ok v' w'∧iO w' w0.heap.size v' (l++m)∧aj w0 w'∧
   w.grownBy w' v.ownBlock∧∀k,v'.ownBlock=some k→v.ownBlock=some k∨w.heap.size≤k:=by
 obtain⟨xs,ho,hx⟩:=h;obtain⟨i,i1,i2,i3,i4⟩:=oq;obtain⟨ys,y1,y2,y3,y4⟩:=hm;obtain⟨v',w',hrun,r1,r2,r3,r4⟩:=d9 (P:=Tryz.prog) w w0.heap.size 24 24 50 i _ 2 40 Tryz.underlying24 i1 i2 i3 i4 rfl (by omega) v l.length xs ho a m.length cap ys y1 y2 y3 (by simp only[maxLen];omega) (by omega) hL.size;have hL':aj w0 w':=aj.of_below (hL.below.grown r2 hL.size fun k hk=>(ho.lt k hk).1) (Nat.le_trans hL.drawn r3);refine⟨v',w',hrun,⟨xs++ys,by rw[List.length_append];exact r1,fun j hj=>?_⟩,hL',r2,r4⟩;have hxl:xs.length=l.length*2:=ho.1;have keep:∀{s:Value} {q:List ByteArray},Strs w s q→(∀k,s.ownBlock=some k→q≠[]→k<w0.heap.size)→Strs w' s q:=fun {s q} hs hk=>by
  by_cases hq:q=[]
  ·subst hq;exact hs.nil
  exact hs.kept r2.size fun k e=>(hL'.block (hk k e hq)).trans (hL.block (hk k e hq)).symm
 by_cases hjl:j<l.length
 ·obtain⟨c1,s',c2,c3,c4⟩:=hx j hjl;have e:(l++m).getD j aA=l.getD j aA:=by
   rw[List.getD_eq_getElem?_getD,List.getD_eq_getElem?_getD,List.getElem?_append_left hjl]
  rw[e];exact⟨by rw[List.getElem?_append_left (by omega)];exact c1,s',by rw[List.getElem?_append_left (by omega)];exact c2,keep c3 c4,c4⟩
 have hjm:j-l.length<m.length:=by simp at hj;omega
 obtain⟨c1,s',c2,c3⟩:=y4 (j-l.length) hjm;have e:(l++m).getD j aA=m.getD (j-l.length) aA:=by rw[List.getD_eq_getElem?_getD,List.getD_eq_getElem?_getD,List.getElem?_append_right (by omega)]
 rw[e];refine⟨by rw[List.getElem?_append_right (by omega),show j*2-xs.length=(j-l.length)*2 by omega];exact c1,s',by rw[List.getElem?_append_right (by omega),show j*2+1-xs.length=(j-l.length)*2+1 by omega];exact c2,c3.later hL',fun k hk ha=>c3.block_lt ha k hk⟩
theorem iO.append {w0 w:World} {v:Value} {l m:List aG} {a:Option Addr} {cap:Nat} (h:iO w w0.heap.size v l) (hL:aj w0 w) (hm:Facts w0 (.slice a m.length cap) m) (hl:l.length+m.length≤3518437208883):
  ∃v' w',(Builtin.append_ #[24,24] 24 #[v,.slice a m.length cap]).run Tryz.prog w=.ok v' w'∧iO w' w0.heap.size v' (l++m)∧aj w0 w'∧
   w.grownBy w' v.ownBlock∧∀k,v'.ownBlock=some k→v.ownBlock=some k∨w.heap.size≤k:=by
 cases a with
 |none=>
  obtain⟨xs,ho,hx⟩:=h;have hm0:m=[]:=by obtain⟨_,a',_,e,h1⟩:=hm;simp only[Value.slice.injEq] at e;refine Classical.byContradiction fun hne=>?_;obtain⟨b,off,e',_⟩:=h1 hne;rw[e'] at e;cases e.1
  subst hm0;refine⟨v,w,mX w _ v _ xs cap ho,?_,hL,⟨rfl,rfl,rfl,Nat.le_refl _,fun _ _ _=>rfl⟩,fun k hk=>Or.inl hk⟩;rw[List.append_nil];exact⟨xs,ho,hx⟩
 |some a=>exact h.dJ hL (l5.of hm hL) hl
theorem iO.later {w w':World} {base:Nat} {v:Value} {l:List aG} (h:iO w base v l) (k:aj w w'):iO w' base v l:=by
 obtain⟨xs,ho,hx⟩:=h;refine⟨xs,⟨ho.1,?_⟩,fun i hi=>?_⟩
 ·rcases ho.2 with e|⟨g,cap,cur,rfl,hbg,hg,r⟩;·exact Or.inl e
  exact Or.inr ⟨g,cap,cur,rfl,hbg,by rw[k.block (Array.getElem?_eq_some_iff.1 hg).1];exact hg,r⟩
 obtain⟨c1,s,c2,c3,c4⟩:=hx i hi;exact⟨c1,s,c2,c3.later k,c4⟩
theorem iO.empty {w:World} {base:Nat} (hb:base≤w.heap.size):iO (w.alloc (.cells #[] 50)) base (.slice (some ⟨w.heap.size,0,none⟩) 0 0) []:=
 ⟨[],World.ownsRow_made w #[] 0 hb (by simp) (by simp),fun i hi=>by simp at hi⟩
theorem iO.nil (w:World) (base:Nat):iO w base (.slice none 0 0) []:=⟨[],World.ownsRow_nil w _ _ _,fun i hi=>by simp at hi⟩
theorem l5.one {w0 w:World} {c:Nat} {f:aG} {s:Value} {t:TypeId} {fr:Nat×Nat} (h:w.heap[c]?=some (.cells #[.string f.1,s] t fr)) (hs:Strs w0 s f.2):l5 w0 w ⟨c,0,none⟩ [f]:=by
 refine⟨[.string f.1,s],rfl,fun j u hu=>?_,fun u hu=>?_,fun i hi=>?_⟩;·rw[Addr.add_lit,Nat.zero_add,cell_of_row _ _ _ _ _ _ h];simpa using hu
 ·simp at hu;rcases hu with rfl|rfl
  ·rfl
  obtain⟨a,c,rfl⟩:=bP hs;rfl
 have:i=0:=by simp at hi;omega
 subst this;exact⟨rfl,s,rfl,hs⟩
theorem iO.facts {base:Nat} {w:World} {v:Value} {l:List aG} (h:iO w base v l) (hl:l.length≤3518437208883):Facts w v l:=by
 obtain⟨xs,ho,hx⟩:=h;rcases ho.2 with⟨rfl,e⟩|⟨g,cap,cur,rfl,hbg,hg,_⟩;·have:l=[]:=List.eq_nil_of_length_eq_zero e;subst this;exact⟨hl,none,0,rfl,fun e=>absurd rfl e⟩
 refine⟨hl,_,cap,rfl,fun _=>⟨g,0,rfl,(Array.getElem?_eq_some_iff.1 hg).1,fun i hi=>?_⟩⟩;obtain⟨c1,s,c2,c3,_⟩:=hx i hi;have cellOf:∀j u,xs[j]?=some u→w.cell? ⟨g,0+j,none⟩=some u:=fun j u hu=>by
  have:=ho.cells (g:=g) rfl j u hu
  rwa [Addr.add_lit] at this
 exact⟨cellOf _ _ c1,s,by rw[Nat.add_assoc];exact cellOf _ _ c2,c3⟩
theorem Facts.take {w:World} {a:Option Addr} {n cap:Nat} {l:List aG} (h:Facts w (.slice a n cap) l) {k:Nat} (hk:k≤l.length):Facts w (.slice a (l.take k).length cap) (l.take k):=by
 obtain⟨h0,a',cap',e,h1⟩:=h;simp only[Value.slice.injEq] at e;obtain⟨rfl,rfl,rfl⟩:=e;refine⟨by rw[List.length_take];omega,_,_,rfl,fun hne=>?_⟩;obtain⟨b,off,e,hb,hc⟩:=h1 (by intro e;apply hne;rw[e];simp);refine⟨b,off,e,hb,fun i hi=>?_⟩;rw[List.length_take] at hi;have e:(l.take k).getD i aA=l.getD i aA:=by rw[List.getD_eq_getElem?_getD,List.getD_eq_getElem?_getD,List.getElem?_take,if_pos (by omega)]
 rw[e];exact hc i (by omega)
theorem Facts.drop {w:World} {b off n cap:Nat} {l:List aG} (h:Facts w (.slice (some ⟨b,off,none⟩) n cap) l) {k:Nat} (hk:k≤l.length) (c:Nat):Facts w (.slice (some ⟨b,off+k*2,none⟩) (l.drop k).length c) (l.drop k):=by
 obtain⟨h0,a',cap',e,h1⟩:=h;simp only[Value.slice.injEq] at e;obtain⟨rfl,rfl,rfl⟩:=e;refine⟨by rw[List.length_drop];omega,_,_,rfl,fun hne=>?_⟩;obtain⟨b',off',e,hb,hc⟩:=h1 (by intro e;apply hne;rw[e];simp);simp only[Option.some.injEq,Addr.mk.injEq] at e;obtain⟨rfl,rfl,_⟩:=e;refine⟨b,_,rfl,hb,fun i hi=>?_⟩;rw[List.length_drop] at hi;have e:(l.drop k).getD i aA=l.getD (k+i) aA:=by rw[List.getD_eq_getElem?_getD,List.getD_eq_getElem?_getD,List.getElem?_drop]
 rw[e];have:=hc (k+i) (by omega);rw[show off+(k+i)*2=off+k*2+i*2 by omega] at this;exact this
theorem dR.base {w:World} {base base':Nat} {v:Value} {l:List aG} (h:dR w base v l) (hb:base'≤base):dR w base' v l:=by
 obtain⟨xs,ho,hx⟩:=h;refine⟨xs,⟨ho.1,?_⟩,fun i hi=>?_⟩
 ·rcases ho.2 with e|⟨g,cp,cur,e,hg,r⟩;·exact Or.inl e
  exact Or.inr ⟨g,cp,cur,e,Nat.le_trans hb hg,r⟩
 obtain⟨c1,s,c2,c3,c4⟩:=hx i hi;exact⟨c1,s,c2,c3,fun k hk=>⟨Nat.le_trans hb (c4 k hk).1,(c4 k hk).2⟩⟩
structure Tn (p:Nat) (w w':World):Prop where
 os:w'.os=w.os
 tape:w'.tape=w.tape
 output:w'.output=w.output
 size:w.heap.size≤w'.heap.size
 block:∀k,k<w.heap.size→k≠p→w'.heap[k]?=w.heap[k]?
theorem Tn.refl (p:Nat) (w:World):Tn p w w:=⟨rfl,rfl,rfl,Nat.le_refl _,fun _ _ _=>rfl⟩
theorem Tn.trans {p:Nat} {a b c:World} (h:Tn p a b) (k:Tn p b c):Tn p a c:=
 ⟨k.os.trans h.os,k.tape.trans h.tape,k.output.trans h.output,Nat.le_trans h.size k.size,fun i hi ho=>(k.block i (Nat.lt_of_lt_of_le hi h.size) ho).trans (h.block i hi ho)⟩
theorem Tn.of_below {p:Nat} {a b:World} (h:Below a.heap.size a b):Tn p a b:=⟨h.os,h.tape,h.output,h.size,fun k hk _=>h.block k hk⟩
theorem Tn.below {p n:Nat} {a b:World} (h:Tn p a b) (hp:n≤p) (hn:n≤a.heap.size):Below n a b:=
 ⟨h.os,h.tape,h.output,h.size,fun k hk=>h.block k (by omega) (by omega)⟩
theorem Tn.cell {p:Nat} {a b:World} (h:Tn p a b) {x:Addr} (hx:x.block<a.heap.size) (ho:x.block≠p):b.cell? x=a.cell? x:=World.cell?_of_block (w:=a) (h.block _ hx ho)
theorem Tn.drewN {p:Nat} {a b:World} (h:Tn p a b) (n:Nat):Tn p a (b.drewN n):=⟨h.os,h.tape,h.output,h.size,h.block⟩
theorem Tn.drew {p:Nat} {a b:World} (h:Tn p a b):Tn p a b.drew:=⟨h.os,h.tape,h.output,h.size,h.block⟩
theorem Tn.alloc {p:Nat} {a b:World} (h:Tn p a b) (o:Obj):Tn p a (b.alloc o):=
 h.trans (Tn.of_below (((aj.refl b).alloc o).below))
theorem heap_setCell_other (w:World) (x:Addr) (v:Value) {k:Nat} (h:k≠x.block):(w.setCell x v).heap[k]?=w.heap[k]?:=by simp only[World.setCell,Array.getElem?_modify];rw[if_neg (fun e=>h e.symm)]
theorem size_setCell (w:World) (x:Addr) (v:Value):(w.setCell x v).heap.size=w.heap.size:=by simp[World.setCell]
theorem Tn.setCell {p:Nat} {a b:World} (h:Tn p a b) {x:Addr} (hx:x.block=p∨a.heap.size≤x.block) (v:Value):Tn p a (b.setCell x v):=
 ⟨h.os,h.tape,h.output,by rw[size_setCell];exact h.size,fun k hk ho=>by rw[heap_setCell_other _ _ _ (by rcases hx with e|e <;> omega)];exact h.block k hk ho⟩
section
theorem ak {n m:Nat} {a b c:World} (h:Below n a b) (k:Below m b c) (hm:n≤m:=by omega):Below n a c:=
 ⟨k.os.trans h.os,k.tape.trans h.tape,k.output.trans h.output,Nat.le_trans h.size k.size,fun i hi=>(k.block i (Nat.lt_of_lt_of_le hi hm)).trans (h.block i hi)⟩
structure aB (α:Type) where
 size:Nat
 is:(Nat→Prop)→World→List Value→α→Prop
 len:∀{B:Nat→Prop} {w:World} {c:List Value} {a:α},is B w c a→c.length=size
 one:∀{B:Nat→Prop} {w:World} {c:List Value} {a:α},is B w c a→∀u∈c,u.oneCell'=true
 kept:∀{B:Nat→Prop} {w w':World} {c:List Value} {a:α},is B w c a→w.heap.size≤w'.heap.size→(∀k,k<w.heap.size→B k→w'.heap[k]?=w.heap[k]?)→is B w' c a
 mono:∀{B B':Nat→Prop} {w:World} {c:List Value} {a:α},is B w c a→(∀k,k<w.heap.size→B k→B' k)→is B' w c a
variable {α:Type}
def Jh:Value→Prop
 | .slice _ n c=>n≤c
 |_=>True
def aB.sl (K:aB α) (B:Nat→Prop) (w:World) (v:Value) (l:List α):Prop:=
 (l.length≤8796093022208∧Jh v)∧∃a cap,v=.slice a l.length cap∧(l≠[]→∃b off,a=some ⟨b,off,none⟩∧B b∧b<w.heap.size∧
  ∀i x,l[i]?=some x→∃c,K.is B w c x∧∀j u,c[j]?=some u→w.cell? ⟨b,off+i*K.size+j,none⟩=some u)
theorem aB.jE (K:aB α) (B:Nat→Prop) (w:World) (a:Option Addr) (cap:Nat):K.sl B w (.slice a 0 cap) []:=⟨⟨by simp,Nat.zero_le _⟩,a,cap,rfl,fun h=>absurd rfl h⟩
theorem aB.fE {K:aB α} {B:Nat→Prop} {w w':World} {v:Value} {l:List α} (h:K.sl B w v l) (hs:w.heap.size≤w'.heap.size) (hk:∀k,k<w.heap.size→B k→w'.heap[k]?=w.heap[k]?):K.sl B w' v l:=by obtain⟨h0,a,cap,rfl,h1⟩:=h;refine⟨h0,a,cap,rfl,fun hl=>?_⟩;obtain⟨b,off,rfl,hB,hb,hc⟩:=h1 hl;refine⟨b,off,rfl,hB,Nat.lt_of_lt_of_le hb hs,fun i x hx=>?_⟩;obtain⟨c,c1,c2⟩:=hc i x hx;exact⟨c,K.kept c1 hs hk,fun j u hu=>by rw[World.cell?_of_block (w:=w) (hk b hb hB)];exact c2 j u hu⟩
theorem aB.dX {K:aB α} {B B':Nat→Prop} {w:World} {v:Value} {l:List α} (h:K.sl B w v l) (hk:∀k,k<w.heap.size→B k→B' k):K.sl B' w v l:=by obtain⟨h0,a,cap,rfl,h1⟩:=h;refine⟨h0,a,cap,rfl,fun hl=>?_⟩;obtain⟨b,off,rfl,hB,hb,hc⟩:=h1 hl;refine⟨b,off,rfl,hk b hb hB,hb,fun i x hx=>?_⟩;obtain⟨c,c1,c2⟩:=hc i x hx;exact⟨c,K.mono c1 hk,c2⟩
theorem aB.slice {K:aB α} {B:Nat→Prop} {w:World} {v:Value} {l:List α} (h:K.sl B w v l):∃a cap,v=.slice a l.length cap:=by obtain⟨_,a,cap,rfl,_⟩:=h;exact⟨a,cap,rfl⟩
abbrev From (lo:Nat):Nat→Prop:=fun k=>lo≤k
def aB.own (K:aB α) (ty:TypeId) (lo:Nat) (w:World) (v:Value) (l:List α):Prop:=
 ∃xs,w.ownsRow lo ty K.size v l.length xs∧∀i x,l[i]?=some x→∃c,K.is (fun k=>lo≤k∧v.ownBlock≠some k) w c x∧∀j u,c[j]?=some u→xs[i*K.size+j]?=some u
theorem aB.gX (K:aB α) (ty:TypeId) (lo:Nat) (w:World):K.own ty lo w (.slice none 0 0) []:=⟨[],World.ownsRow_nil w lo ty K.size,fun i x h=>by simp at h⟩
theorem aB.dH {K:aB α} {ty:TypeId} {p lo:Nat} {w w':World} {v:Value} {l:List α} (h:K.own ty lo w v l) (k:Tn p w w') (hp:p<lo):K.own ty lo w' v l:=by
 obtain⟨xs,ho,hx⟩:=h;refine⟨xs,⟨ho.1,?_⟩,fun i x hi=>?_⟩
 ·rcases ho.2 with e|⟨g,cap,cur,rfl,hbg,hg,r⟩;·exact Or.inl e
  exact Or.inr ⟨g,cap,cur,rfl,hbg,by rw[k.block g (Array.getElem?_eq_some_iff.1 hg).1 (by omega)];exact hg,r⟩
 obtain⟨c,c1,c2⟩:=hx i x hi;exact⟨c,K.kept c1 k.size fun j hj hB=>k.block j hj (by have:=hB.1;omega),c2⟩
theorem aB.dV {K:aB α} {ty:TypeId} {lo:Nat} {w:World} {v:Value} {l:List α} (h:K.own ty lo w v l) {k:Nat} (hk:v.ownBlock=some k):lo≤k∧k<w.heap.size:=by obtain⟨xs,ho,_⟩:=h;exact ho.lt k hk
theorem aB.bI {K:aB α} {ty:TypeId} {lo:Nat} {w:World} {v:Value} {l:List α} (h:K.own ty lo w v l):∃a cap,v=.slice a l.length cap:=by
 obtain⟨xs,ho,_⟩:=h;rcases ho.2 with⟨rfl,e⟩|⟨g,cap,cur,rfl,_⟩;·exact⟨none,0,by rw[e]⟩
 exact⟨_,cap,rfl⟩
theorem aB.gQ {K:aB α} {ty:TypeId} {lo:Nat} {w:World} {v:Value} {l:List α} (h:K.own ty lo w v l) (hl:l.length≤8796093022208):K.sl (From lo) w v l:=by
 obtain⟨xs,ho,hx⟩:=h;rcases ho.2 with⟨rfl,e⟩|⟨g,cap,cur,rfl,hbg,hg,hnc,_⟩;·have:l=[]:=List.eq_nil_of_length_eq_zero e;subst this;exact K.jE _ _ _ _
 refine⟨⟨hl,hnc⟩,_,cap,rfl,fun _=>⟨g,0,rfl,hbg,(Array.getElem?_eq_some_iff.1 hg).1,fun i x hi=>?_⟩⟩;obtain⟨c,c1,c2⟩:=hx i x hi;refine⟨c,K.mono c1 fun k _ h=>h.1,fun j u hu=>?_⟩;have:=ho.cells (g:=g) rfl _ u (c2 j u hu);rw[Addr.add_lit] at this;rw[Nat.add_assoc];exact this
theorem aB.Ba {K:aB α} {ty:TypeId} {lo:Nat} {w:World} {c:List Value} {x:α} (hc:K.is (From lo) w c x) (hlo:lo≤w.heap.size):K.own ty lo (w.alloc (.cells c.toArray ty)) (.slice (some ⟨w.heap.size,0,none⟩) 1 1) [x]:=by
 refine⟨c,?_,fun i y hi=>?_⟩;·refine⟨by rw[K.len hc];simp,Or.inr ⟨w.heap.size,1,c.toArray,rfl,hlo,?_,by simp,by simp[maxLen],by simp[K.len hc],by have:=K.len hc;simp[←this]⟩⟩;exact heap_alloc_new w _
 cases i with
 |zero=>
  simp at hi;subst hi;refine⟨c,K.kept (K.mono hc fun k hk h=>⟨h,by simp[Value.ownBlock];omega⟩) (by simp) fun k hk _=>Below.heap_alloc w _ k hk,fun j u hu=>by rw[Nat.zero_mul,Nat.zero_add];exact hu⟩
 |succ i=>simp at hi
theorem aB.oV {P:Program} {K:aB α} {t ty:TypeId} {lo bytes:Nat} {w:World} {v:Value} {l:List α} (h:K.own ty lo w v l) {i:TypeInfo} {z:Value}
  (ht:P.underlying t=some (.slice ty)) (hi:P.info? ty=some i) (hz:i.zero=some z) (hsize:i.size=K.size) (hby:i.bytes=bytes) (hzs:z.cells.size=K.size) (hsz:0<K.size)
  {c:List Value} {x:α} (hc:K.is (fun k=>lo≤k∧v.ownBlock≠some k) w c x) (hl:l.length+1≤maxLen) (hB:(l.length+1)*bytes≤140737488355328) (hlo:lo≤w.heap.size):
  ∃v' w',(Builtin.append_ #[t,t] t #[v,.slice (some ⟨w.heap.size,0,none⟩) 1 1]).run P (w.alloc (.cells c.toArray ty))=.ok v' w'∧K.own ty lo w' v' (l++[x])∧(w.alloc (.cells c.toArray ty)).grownBy w' v.ownBlock:=by
 obtain⟨xs,ho,hx⟩:=h;have hcl:=K.len hc;have hnews:∀j u,c[j]?=some u→(w.alloc (.cells c.toArray ty)).cell? ((⟨w.heap.size,0,none⟩:Addr).add j)=some u:=by intro j u hu;rw[Addr.add_lit,Nat.zero_add,cell_of_row _ w.heap.size j c.toArray ty (0,0) (heap_alloc_new w _)];simpa using hu
 obtain⟨v',w',hrun,r1,r2,r3,r4⟩:=d9 (P:=P) (w.alloc (.cells c.toArray ty)) lo t t ty i z K.size bytes ht hi hz hsize hby hzs hsz v l.length xs (ho.alloc _) ⟨w.heap.size,0,none⟩ 1 1 c (by rw[hcl];simp) hnews
  (K.one hc) hl hB (by simp;omega)
 have hxl:xs.length=l.length*K.size:=ho.1;have own':∀k,k<w.heap.size→v'.ownBlock=some k→v.ownBlock=some k:=fun k hk e=>by
  rcases r4 k e with e|e;·exact e
  simp at e;omega
 have keep:∀k,k<w.heap.size→(lo≤k∧v.ownBlock≠some k)→w'.heap[k]?=w.heap[k]?:=fun k hk hB=>
  (r2.block k (by simp;omega) (fun e=>hB.2 e.symm)).trans (Below.heap_alloc w _ k hk)
 have hsz':w.heap.size≤w'.heap.size:=Nat.le_trans (by simp) r2.size;have move:∀{c:List Value} {y:α},K.is (fun k=>lo≤k∧v.ownBlock≠some k) w c y→K.is (fun k=>lo≤k∧v'.ownBlock≠some k) w' c y:=fun {c y} hy=>
  K.kept (K.mono hy fun k hk hB=>(⟨⟨hB.1,fun e=>hB.2 (own' k hk e)⟩,hB⟩:(lo≤k∧v'.ownBlock≠some k)∧(lo≤k∧v.ownBlock≠some k))) hsz' (fun k hk hB=>keep k hk hB.2) |> fun h=>K.mono h fun _ _ hB=>hB.1
 refine⟨v',w',hrun,⟨xs++c,by simpa using r1,fun j y hj=>?_⟩,r2⟩
 by_cases hjl:j<l.length
 ·rw[List.getElem?_append_left hjl] at hj;obtain⟨d,d1,d2⟩:=hx j y hj;refine⟨d,move d1,fun q u hu=>?_⟩;have:=d2 q u hu;rw[List.getElem?_append_left (List.getElem?_eq_some_iff.1 this).1];exact this
 rw[List.getElem?_append_right (by omega)] at hj;have hj':j=l.length:=by have:=(List.getElem?_eq_some_iff.1 hj).1;simp at this;omega
 subst hj';simp at hj;subst hj;refine⟨c,move hc,fun q u hu=>?_⟩;rw[List.getElem?_append_right (by omega),hxl,Nat.add_sub_cancel_left];exact hu
theorem aB.zC {P:Program} {K:aB α} {t ty:TypeId} {lo bytes:Nat} {w:World} {v:Value} {l:List α} (h:K.own ty lo w v l) {i:TypeInfo} {z:Value}
  (ht:P.underlying t=some (.slice ty)) (hi:P.info? ty=some i) (hz:i.zero=some z) (hsize:i.size=K.size) (hby:i.bytes=bytes) (hzs:z.cells.size=K.size) (hsz:0<K.size) (hb:bytes≤100)
  {c:List Value} {x:α} (hc:K.is (fun k=>lo≤k∧v.ownBlock≠some k) w c x) (hl:l.length+1≤1099511627776) (hlo:lo≤w.heap.size):
  ∃v' w',(Builtin.append_ #[t,t] t #[v,.slice (some ⟨w.heap.size,0,none⟩) 1 1]).run P (w.alloc (.cells c.toArray ty))=.ok v' w'∧K.own ty lo w' v' (l++[x])∧(w.alloc (.cells c.toArray ty)).grownBy w' v.ownBlock:=
 aB.oV h ht hi hz hsize hby hzs hsz hc (by simp only[maxLen];omega) (Nat.le_trans (Nat.mul_le_mul hl hb) (by omega)) hlo
def gJ:aB dM where
 size:=2
 is:=fun _ _ c t=>c=[.bool t.1,.string (bs t.2)]
 len:=fun h=>by subst h;rfl
 one:=fun h u hu=>by subst h;simp at hu;rcases hu with rfl|rfl <;> rfl
 kept:=fun h _ _=>h
 mono:=fun h _=>h
def iH:aB Bs where
 size:=1
 is:=fun _ _ c t=>c=[.string (bs t)]
 len:=fun h=>by subst h;rfl
 one:=fun h u hu=>by subst h;simp at hu;subst hu;rfl
 kept:=fun h _ _=>h
 mono:=fun h _=>h
def dY:aB aJ where
 size:=3
 is:=fun B w c a=>∃v,c=[.bool a.no,.string (bs a.name),v]∧gJ.sl B w v a.terms
 len:=fun⟨v,h,_⟩=>by subst h;rfl
 one:=fun⟨v,h,hs⟩ u hu=>by subst h;obtain⟨a,cap,rfl⟩:=aB.slice hs;simp at hu;rcases hu with rfl|rfl|rfl <;> rfl
 kept:=fun⟨v,h,hs⟩ h1 h2=>⟨v,h,aB.fE hs h1 h2⟩
 mono:=fun⟨v,h,hs⟩ h1=>⟨v,h,aB.dX hs h1⟩
def iy:aB aD where
 size:=4
 is:=fun B w c a=>∃v u,c=[.bool a.head.no,.string (bs a.head.name),v,u]∧gJ.sl B w v a.head.terms∧dY.sl B w u a.body
 len:=fun⟨v,u,h,_,_⟩=>by subst h;rfl
 one:=fun⟨v,x,h,hs,hb⟩ u hu=>by subst h;obtain⟨a,cap,rfl⟩:=aB.slice hs;obtain⟨a,cap,rfl⟩:=aB.slice hb;simp at hu;rcases hu with rfl|rfl|rfl|rfl <;> rfl
 kept:=fun⟨v,u,h,hs,hb⟩ h1 h2=>⟨v,u,h,aB.fE hs h1 h2,aB.fE hb h1 h2⟩
 mono:=fun⟨v,u,h,hs,hb⟩ h1=>⟨v,u,h,aB.dX hs h1,aB.dX hb h1⟩
def aB.val (K:aB α) (lo:Nat) (w:World) (v:Value) (a:α):Prop:=∃c,v=.agg c.toArray∧K.is (From lo) w c a
theorem aB.bR {α:Type} {K:aB α} {B:Nat→Prop} {w:World} {a:Option Addr} {n cap i:Nat} {l:List α} {x:α} (h:K.sl B w (.slice a n cap) l) (hi:l[i]?=some x):
  ∃b off c,a=some ⟨b,off,none⟩∧b<w.heap.size∧K.is B w c x∧∀j u,c[j]?=some u→w.cell? ⟨b,off+i*K.size+j,none⟩=some u:=by
 obtain⟨_,a',cap',e,h1⟩:=h;simp only[Value.slice.injEq] at e;obtain⟨rfl,_,_⟩:=e;obtain⟨b,off,rfl,_,hb,hc⟩:=h1 (by intro e;rw[e] at hi;simp at hi);obtain⟨c,c1,c2⟩:=hc i x hi;exact⟨b,off,c,rfl,hb,c1,c2⟩
abbrev bT:Nat→Prop:=fun _=>True
theorem aB.dO {α:Type} {K:aB α} {B:Nat→Prop} {w:World} {v:Value} {l:List α} (h:K.sl B w v l):K.sl bT w v l:=aB.dX h fun _ _ _=>trivial
theorem aB.aS {α:Type} {K:aB α} {w w':World} {v:Value} {l:List α} (h:K.sl bT w v l) (k:aj w w'):K.sl bT w' v l:=aB.fE h k.size fun _ hi _=>k.block hi
theorem aB.aO {α:Type} {K:aB α} {w w':World} {v:Value} {l:List α} (h:K.sl bT w v l) (k:Below w.heap.size w w'):K.sl bT w' v l:=aB.fE h k.size fun i hi _=>k.block i hi
end
end Go.Proofs.YthngiikhgplldaaGreatDoor
