import Derived.Test.YtafmbokfkbccaaaGreatDoorJN23
import Derived.Test.YtafmbokfkbccaaaGreatDoorJN29
import Derived.Test.YtafmbokfkbccaaaGreatDoorJN30
import Derived.Test.YtafmbokfkbccaaaGreatDoorJN27
import Derived.Test.YtafmbokfkbccaaaGreatDoorJN26
import Derived.Laws.StructEq
namespace Go.Proofs.YtafmbokfkbccaaaGreatDoor
open Go.RowKit Go.Sort Go.Maps
def V6 : List aA :=
  [⟨⟨false, [116], [(true, [88]), (true, [89])]⟩, [⟨false, [101], [(true, [88]), (true, [89])]⟩]⟩,
   ⟨⟨false, [116], [(true, [88]), (true, [90])]⟩, [⟨false, [116], [(true, [88]), (true, [89])]⟩, ⟨false, [101], [(true, [89]), (true, [90])]⟩]⟩]
def V7:List au:=[(kb [101],[kb [97],kb [98]])]
def Ui:List au:=[(kb [101],[kb [97],kb [98]]),(kb [116],[kb [97],kb [98]])]
def Xo:Bs:=[116,40,88,44,89,41,32,58,45,32,101,40,88,44,89,41,46,32,116,40,88,44,90,41,32,58,45,32,116,40,88,44,89,41,44,32,101,40,89,44,90,41,46]
def Xp:fG:=⟨Ui,Ui,1,2,true⟩
end Go.Proofs.YtafmbokfkbccaaaGreatDoor
namespace Go.Proofs.YtafmbokfkbccaaaGreatDoor
open Go.RowKit Go.Sort
theorem Iq {p:List aA} {r:fG} (h:aX p r=0):lI p (vk r)=(0,r):=by
 unfold lI;rw[zQ (r9 h).1,if_neg (by simp),if_neg (by rw[h];simp)]
theorem Fj {p:List aA} {r:fG} (h:(jF p r).1=0):aX p r=0∧jF p r=(0,vk r):=by
 unfold jF at h⊢;split at h
 ·rename_i h1;exact absurd h h1
 ·rename_i h1;have h1:=Classical.byContradiction h1;exact⟨h1,by rw[if_neg (by rw[h1];simp)]⟩
theorem oh.run {b:Nat} {w:World} {v:Value} {r:fG} (h:oh b w v r) (h1:r.known.length≤200) (h2:r.fresh.length≤200):Qn w v r:=by
 obtain⟨kv,nv,e,h3,h4⟩:=h;exact⟨kv,nv,e,h3.facts (by omega),h4.facts (by omega)⟩
end Go.Proofs.YtafmbokfkbccaaaGreatDoor
namespace Go.Proofs.YtafmbokfkbccaaaGreatDoor
structure PK (p:List aA) (τ:Bs→Nat) (l:List au) (r:fG):Prop where
 told:∀f∈l,f∈r.known
 of:∀f∈r.known,f∉l→∃q∈p,f.1=bs q.head.name
 closed:∀q∈p,(τ q.head.name:Int)<r.level→∀env f,jE (fun _=>r.known) q.body env→aV q.head env=some f→f∈r.known
 semi:∀q∈p,(τ q.head.name:Int)=r.level→Semi r.known r.fresh q
theorem Fp {p:List aA} {τ:Bs→Nat} {l:List au} {d:Bool}:PK p τ l ⟨l,l,0,0,d⟩:=
 ⟨fun _ h=>h,fun f hf hn=>absurd hf hn,fun q _ h=>by dsimp only at h;omega,fun q _ _=>Dg _ q⟩
theorem Ir {p:List aA} (hp:cZ p) {τ:Bs→Nat} (hτ:Sol p τ) {l:List au} {r x:fG} (hr:jQ p (countP (p.map fun r=>τ r.head.name)) r) (hw:PK p τ l r) (h:iQ p (p.map fun r=>τ r.head.name) r=(0,x)):PK p τ l x:=by
 obtain⟨_,M,hM,hl,hxx⟩:=sF h;have hsub:∀f∈r.known,f∈dK (r.known++M):=fun f hf=>cu.2 (List.mem_append.2 (Or.inl hf));have hmk:∀q∈p,(τ q.head.name:Int)=r.level→∀f,Makes r.known r.fresh q f→f∈dK (r.known++M):=fun q hq hs f hf=>cu.2 (List.mem_append.2 (Or.inr ((mq (fun r=>τ r.head.name) hp.rules hM f).2 (Or.inr ⟨q,hq,hs,hf⟩))));have hnew:∀f∈dK (r.known++M),f∈r.known∨∃q∈p,(τ q.head.name:Int)=r.level∧f.1=bs q.head.name:=fun f hf=>by
  rcases List.mem_append.1 (cu.1 hf) with hf|hf
  ·exact Or.inl hf
  ·rcases(mq (fun r=>τ r.head.name) hp.rules hM f).1 hf with h1|⟨q,hq,hs,hm⟩
   ·cases h1
   ·obtain⟨env,_,hh⟩:=vW hr.sub hm;exact Or.inr ⟨q,hq,hs,(jo hh).1⟩
 have hof:∀f∈dK (r.known++M),f∉l→∃q∈p,f.1=bs q.head.name:=fun f hf hn=>by
  rcases hnew f hf with hf|⟨q,hq,_,e⟩
  ·exact hw.of f hf hn
  ·exact⟨q,hq,e⟩
 rcases hxx with⟨hn,rfl⟩|⟨hn,rfl⟩
 ·have eK:=(Ca hr.good.up).1 hn;refine⟨fun f hf=>hsub f (hw.told f hf),hof,fun q hq hlt env f hf hh=> ?_,fun q _ _=>Dg _ q⟩;dsimp only at hlt hf⊢;rw[eK] at hf⊢
  by_cases e:(τ q.head.name:Int)<r.level
  ·exact hw.closed q hq e env f hf hh
  ·rcases hw.semi q hq (by omega) env f hf hh with h1|h1
   ·exact h1
   ·have:=hmk q hq (by omega) f h1;rw[eK] at this;exact this
 ·refine⟨fun f hf=>hsub f (hw.told f hf),hof,fun q hq hlt env f hf hh=> ?_,fun q hq hs=>Gi hsub (hw.semi q hq hs) (hmk q hq hs) fun f hf hn'=>mo.2 ⟨(List.mem_append.1 (cu.1 hf)).resolve_left hn',hn'⟩⟩;refine hsub f (hw.closed q hq hlt env f (xZ (fun a ha hno g hgn hg=> ?_) (fun a _ _ g _ hg=>hsub g hg) hf) hh);rcases hnew g hg with hg|⟨q',hq',hs',e'⟩
  ·exact hg
  ·exfalso
   have e:a.name=q'.head.name:=qO (hgn.symm.trans e');have h1:=hτ q hq a ha ⟨q',hq',e.symm⟩;rw[e] at h1;dsimp only at hlt;omega
theorem xA {p:List aA} (hp:cZ p) {τ:Bs→Nat} (hτ:Sol p τ) {l:List au}:∀(m:Nat) {r x:fG},jQ p (countP (p.map fun r=>τ r.head.name)) r→PK p τ l r→eU p (p.map fun r=>τ r.head.name) m r=(0,x)→PK p τ l x
 |0,r,x,_,hw,h=>by simp[eU] at h;subst h;exact hw
 |m+1,r,x,hr,hw,h=>by
  unfold eU at h;split at h
  ·simp at h;subst h;exact hw
  ·rename_i hd;split at h
   ·rename_i he;simp at h;exact absurd h.1 he
   ·rename_i he;have hn:iQ p (p.map fun r=>τ r.head.name) r=(0,(iQ p (p.map fun r=>τ r.head.name) r).2):=by rw[←Classical.byContradiction fun h:¬(iQ p (p.map fun r=>τ r.head.name) r).1=0=>he h]
    exact xA hp hτ m (qg hp (fun r=>τ r.head.name) hr (by simpa using hd) hn).1 (Ir hp hτ hr hw hn) h
def Bc (p:List aA) (told:List au) (r:fG):Prop:=∃l0,(∀f∈l0,f∈told)∧oH p l0=0∧∃j,eU p (aG p).1 j (vG p l0)=(0,r)
theorem Bc.mono {p:List aA} {t t':List au} {r:fG} (h:Bc p t r) (ht:∀f∈t,f∈t'):Bc p t' r:=by
 obtain⟨l0,h1,h2,h3⟩:=h;exact⟨l0,fun f hf=>ht f (h1 f hf),h2,h3⟩
theorem Bc.done {p:List aA} {t:List au} {r:fG} (h:Bc p t r) (hd:r.done=true):GoodS p r.known∧cZ p∧(∀f∈r.known,f∈t∨∃q∈p,f.1=bs q.head.name)∧∀q∈p,∀x,gH q r.known=some x→∀f∈x,f∈r.known:=by
 obtain⟨l0,h1,h2,j,h3⟩:=h;obtain⟨hp,hg,τ,hτ,hs,_⟩:=gZ h2;have e2:(aG p).1=p.map fun r=>τ r.head.name:=by rw[hs]
 have er:vG p l0=⟨l0,l0,0,0,decide (countP (p.map fun r=>τ r.head.name)=0)⟩:=by unfold vG;rw[e2]
 rw[e2,er] at h3;have hr0:=sU (c:=countP (p.map fun r=>τ r.head.name)) hg;have hr:=lq hp (fun r=>τ r.head.name) j hr0 h3;have hw:=xA hp hτ j hr0 Fp h3;have QT:r.level=countP (p.map fun r=>τ r.head.name):=by have:=hr.done;rw[hd] at this;simpa using this.symm
 refine⟨hr.good,hp,fun f hf=> ?_,fun q hq x hx f hf=> ?_⟩
 ·by_cases hfl:f∈l0
  ·exact Or.inl (h1 f hfl)
  ·exact Or.inr (hw.of f hf hfl)
 ·obtain⟨env,he,hh⟩:=(jm (dJ (hp.rules q hq)) hx f).1 hf;refine hw.closed q hq ?_ env f he hh;rw[QT];have:=lZ (List.mem_map.2 ⟨q,hq,rfl⟩:τ q.head.name∈p.map fun r=>τ r.head.name);omega
structure Lv (d:dD):Prop where
 up:Up d.told
 few:d.told.length≤200
 run:d.running=true→Bc d.rules d.told d.run
 saved:d.saved≠[]→∃r,Bc d.rules d.told r∧d.saved=vk r∧aX d.rules r=0
theorem Iu:Lv jy:=⟨List.Pairwise.nil,by simp[jy],fun h=>(by cases h),fun h=>absurd rfl h⟩
theorem uP {d:dD} (h:Lv d) {x:Int×fG} (hx:x.1=0→Bc d.rules d.told x.2):Lv (kP d x).1:=by
 unfold kP;split
 ·exact h
 ·rename_i h0;exact⟨h.up,h.few,fun _=>hx (Classical.byContradiction h0),h.saved⟩
theorem Nc (φ:Prover) {d:dD} (h:Lv d) (x:DoD):Lv (doP φ d x).1:=by
 unfold doP;split
 ·unfold rP;split
  ·exact h
  ·split
   ·exact h
   ·rename_i h2;have hsub:∀f∈d.told,f∈dK (d.told++[x.fact]):=fun f hf=>cu.2 (List.mem_append.2 (Or.inl hf));exact⟨iI _,by dsimp only;omega,fun hr=>(h.run hr).mono hsub,fun hs=>by obtain⟨r,h1,h2,h3⟩:=h.saved hs;exact⟨r,h1.mono hsub,h2,h3⟩⟩
 ·split
  ·unfold rQ;split
   ·exact h
   ·split
    ·exact h
    ·exact⟨h.up,h.few,fun hr=>(by cases hr),fun hs=>absurd rfl hs⟩
  ·split
   ·refine uP h fun h0=> ?_;unfold iN at h0⊢;split at h0
    ·rename_i h1;exact absurd h0 h1
    ·rename_i h1;rw[if_neg h1];exact⟨d.told,fun _ hf=>hf,Classical.byContradiction h1,0,rfl⟩
   ·split
    ·unfold vI;split
     ·exact h
     ·rename_i hr;refine uP h fun h0=> ?_;obtain⟨l0,a1,a2,j,a3⟩:=h.run (by simpa using hr);unfold jw at h0⊢;split at h0
      ·rename_i h1;exact absurd h0 h1
      ·rename_i h1;rw[if_neg h1];split at h0
       ·simp at h0
       ·rename_i h2;rw[if_neg h2];refine⟨l0,a1,a2,j+x.n.toNat,?_⟩;rw[zL j x.n.toNat _ (by rw[a3]),a3];exact Prod.ext h0 rfl
    ·split
     ·exact h
     ·split
      ·exact h
      ·split
       ·unfold rR;split
        ·exact h
        ·rename_i hr;split
         ·exact h
         ·rename_i h0;obtain⟨s1,s2⟩:=Fj (Classical.byContradiction h0);exact⟨h.up,h.few,h.run,fun _=>⟨d.run,h.run (by simpa using hr),by dsimp only;rw[s2],s1⟩⟩
       ·split
        ·unfold yS;split
         ·exact h
         ·rename_i hs;obtain⟨r,r1,r2,r3⟩:=h.saved hs;refine uP h fun _=> ?_;rw[r2,Iq r3];exact r1
        ·exact h
theorem Bd (φ:Prover):∀(l:List DoD) {d:dD},Lv d→Lv (ig φ d l).1
 |[],_,h=>h
 |x::l,_,h=>Bd φ l (Nc φ h x)
end Go.Proofs.YtafmbokfkbccaaaGreatDoor
namespace Go.Proofs.YtafmbokfkbccaaaGreatDoor
open Go.RowKit Go.Sort
end Go.Proofs.YtafmbokfkbccaaaGreatDoor
