import Derived.Test.YtafmbokfkbccaaaGreatDoorJW14
import Derived.Test.YtafmbokfkbccaaaGreatDoorJW25
import Derived.Defers
import Derived.Recover
import Derived.Test.YtafmbokfkbccaaaGreatDoorJW21
namespace Go.Proofs.YtafmbokfkbccaaaGreatDoor
open Go.RowKit Go.Sort
set_option maxHeartbeats 1000000 in
theorem KM (v t:Value) (l:List aG) (g:aG) (w:World) (hf:Facts w v l) (ht:bW w t g) (hr:fO l):
  Calls Tryz.prog 127 #[v,t,.func (.func 128) #[] #[]] w fun e w'=>∃n:Nat,e=.returned (.tuple #[.int .i64 (n:Int),.bool (gD l g 0)])∧(n≤l.length∧(∀t,t<n→gu (l.getD t aB) g<0)∧∀t,n≤t→t<l.length→0≤gu (l.getD t aB) g)∧Later w w':=by
 have mx:=mixed;have HF:=hide hf;have HT:=hide ht;have HR:=hide hr;obtain⟨a,cap,rfl,hn,hz⟩:=hf.addr;obtain⟨s2,rfl,l2,a2,c2,rfl,_⟩:=ht;clear hf hr
 go_enter Tryz.func127,Tryz.ntmps127
 go_wp2
 go_loopw [9,10] (fun i j wr=>∃lo hi:Nat,lo≤hi∧hi≤l.length∧i=.int .i64 lo∧j=.int .i64 hi∧Later (w.alloc (.cells #[.string g.1,.slice a2 g.2.length c2] 27)) wr∧Hid (∀t,t<lo→gu (l.getD t aB) g<0)∧Hid (∀t,hi≤t→t<l.length→0≤gu (l.getD t aB) g)) (fun i j _=>(intOf j).toNat- (intOf i).toNat)
 case atStart=>exact⟨0,l.length,by omega,by omega,rfl,rfl,Later.refl _,fun t ht=>absurd ht (Nat.not_lt_zero _),fun t h1 h2=>by omega⟩
 case round=>
  obtain⟨lo,hi,hlh,hin,rfl,rfl,hL,HA,HB⟩:=hrel;have hL0:Later w wr:=((Later.refl _).alloc _).trans hL;have z0:=cell_later hL (p:=⟨w.heap.size,0,none⟩) (v:=.string g.1) (by simp) (by simp);have z1:=cell_later hL (p:=⟨w.heap.size,1,none⟩) (v:=.slice a2 g.2.length c2) (by simp) (by simp)
  by_cases hlt:lo<hi
  ·rcases hz with rfl|⟨b,off,rfl⟩
   ·simp at hin;omega
   obtain⟨m,hm⟩:∃m,m=(lo+hi)/2:=⟨_,rfl⟩;have hml:m<l.length:=by omega
   have hlm:lo≤m:=by omega
   have hmh:m<hi:=by omega
   have em:((lo:Int)+(hi:Int))/2=(m:Int):=by omega
   clear hm;have hltz:(lo:Int)<(hi:Int):=by omega
   have hmz:(m:Int)<(l.length:Int):=by omega
   obtain⟨ax,lx,cx,g1,g2,fx⟩:=(HF.out.later hL0).grown hml;have hC:∀q os,Calls Tryz.prog 128 #[.agg #[.string (l.getD m aB).1,.slice ax lx cx],.agg #[.string g.1,.slice a2 g.2.length c2]] (grow (wr.drewN q) os) fun e w''=>e=.returned (.int .i64 (gu (l.getD m aB) g))∧Later (grow (wr.drewN q) os) w'':=
    fun q os=>jT _ _ _ _ _ (fx.later ⟨q,os,rfl⟩) ((HT.out.later hL0).later ⟨q,os,rfl⟩)
   have HC:=hide hC;clear hC fx;have hlow:=HR.out;have yt:gu (l.getD m aB) g<0→∀t,t<m+1→gu (l.getD t aB) g<0:=fun h t ht=>by
    by_cases e:t=m
    ·rw[e];exact h
    ·have h3:=List.pairwise_iff_getElem.1 hlow t m (by omega) hml (by omega);refine aQ.trans _ (l.getD m aB) _ ?_ h;rw[List.getD_eq_getElem?_getD,List.getElem?_eq_getElem (by omega),List.getD_eq_getElem?_getD,List.getElem?_eq_getElem hml];exact h3
   have hstep2:0≤gu (l.getD m aB) g→∀t,m≤t→t<l.length→0≤gu (l.getD t aB) g:=fun h t h1 h2=>by
    by_cases e:t=m
    ·rw[e];exact h
    ·have h3:=List.pairwise_iff_getElem.1 hlow m t (by omega) h2 (by omega);refine Int.not_lt.1 fun n=> ?_;have h4:=aQ.trans (l.getD m aB) (l.getD t aB) g (by
      rw[List.getD_eq_getElem?_getD,List.getElem?_eq_getElem (by omega),List.getD_eq_getElem?_getD,List.getElem?_eq_getElem h2];exact h3) n
     omega
   have H1:=hide yt;have H2:=hide hstep2;clear yt hstep2 hlow;generalize hcm:gu (l.getD m aB) g=cm at*;have HCM:=hide hcm;clear hcm;generalize(l.getD m aB).1=nm at*
   by_cases hneg:cm<0
   ·go_wp2
    go_quiet_grown ((go_at_call 128;exact Calls.grown_of (HC.out _ _)))
    go_wp2
    go_roundw
    case rel=>exact⟨m+1,hi,by omega,hin,by go_num,rfl,hL.trans ⟨_,_,rfl⟩,H1.out hneg,HB⟩
    case measure=>simp[intOf];omega
   ·go_wp2
    go_quiet_grown ((go_at_call 128;exact Calls.grown_of (HC.out _ _)))
    go_wp2
    go_roundw
    case rel=>exact⟨lo,m,by omega,by omega,rfl,rfl,hL.trans ⟨_,_,rfl⟩,HA,H2.out (by omega)⟩
    case measure=>simp[intOf];omega
  ·obtain rfl:lo=hi:=by omega
   have hfin:=meet HR.out hin HA.out HB.out
   by_cases hll:lo<l.length
   ·rcases hz with rfl|⟨b,off,rfl⟩
    ·simp at hll
    have hmz:(lo:Int)<(l.length:Int):=by omega
    obtain⟨ax,lx,cx,g1,g2,fx⟩:=(HF.out.later hL0).grown hll;have hC:∀q os,Calls Tryz.prog 128 #[.agg #[.string (l.getD lo aB).1,.slice ax lx cx],.agg #[.string g.1,.slice a2 g.2.length c2]] (grow (wr.drewN q) os) fun e w''=>e=.returned (.int .i64 (gu (l.getD lo aB) g))∧Later (grow (wr.drewN q) os) w'':=
     fun q os=>jT _ _ _ _ _ (fx.later ⟨q,os,rfl⟩) ((HT.out.later hL0).later ⟨q,os,rfl⟩)
    have HC:=hide hC;rw[decide_eq_true hll] at hfin;have HFN:=hide hfin;clear hC fx hfin;generalize hcm:gu (l.getD lo aB) g=cm at*;generalize(l.getD lo aB).1=nm at*;have HCM:=hide hcm;clear hcm;go_wp2
    go_quiet_grown ((go_at_call 128;exact Calls.grown_of (HC.out _ _)))
    go_wp2
    go_ret2
    exact⟨lo,wu (by rw[HFN.out,Bool.true_and,Bool.eq_iff_iff];simp),⟨hin,HA.out,HB.out⟩,hL0.trans ⟨_,_,rfl⟩⟩
   ·rw[decide_eq_false hll] at hfin;have HFN:=hide hfin;clear hfin;have hd:decide ((lo:Int)<(l.length:Int))=false:=by rw[decide_eq_false_iff_not];omega
    go_wp2
    go_quiet (fail)
    go_wp2
    go_ret2
    exact⟨lo,wu (by rw[HFN.out];rfl),⟨hin,HA.out,HB.out⟩,hL0.drewN _⟩
end Go.Proofs.YtafmbokfkbccaaaGreatDoor
namespace Go.Proofs.YtafmbokfkbccaaaGreatDoor
open Go.RowKit Go.Sort
def NV (s:Bs):List aF×Int×Nat:=
 if 3000<s.length then([],4,0) else match GY s with
  | .ok out _=>(out,0,0)
  | .bad n r=>([],n,s.length-r.length)
end Go.Proofs.YtafmbokfkbccaaaGreatDoor
namespace Go.Proofs.YtafmbokfkbccaaaGreatDoor
open Go.RowKit Go.Sort Go.Maps
def Td:ByteArray:={data:=#[98,40,88,41,32,58,45,32,97,40,88,41,44,32,33,99,40,88,41,46,32,99,40,88,41,32,58,45,32,100,40,88,41,46]}
def Te:ByteArray:={data:=#[97,40,120,41,32,58,45,32,33,97,40,120,41,46]}
def ra:aA:=⟨⟨false,[98],[(true,[88])]⟩,[⟨false,[97],[(true,[88])]⟩,⟨true,[99],[(true,[88])]⟩]⟩
def rb:aA:=⟨⟨false,[99],[(true,[88])]⟩,[⟨false,[100],[(true,[88])]⟩]⟩
def rc:aA:=⟨⟨false,[97],[(false,[120])]⟩,[⟨true,[97],[(false,[120])]⟩]⟩
theorem Tf:dY (raw Td)=([ra,rb],0,0):=by kernel_rfl
theorem Tg:dY (raw Te)=([rc],0,0):=by kernel_rfl
theorem Pb:aK [ra,rb]=([1,0],0,0):=by kernel_rfl
theorem Pd:aK [rc]=([],10,0):=by kernel_rfl
theorem QI:gH [ra,rb]=(0,0):=by kernel_rfl
theorem Ti:vars ra.head=[[88]]:=by kernel_rfl
end Go.Proofs.YtafmbokfkbccaaaGreatDoor
namespace Go.Proofs.YtafmbokfkbccaaaGreatDoor
open Go.RowKit Go.Sort Go.Maps
end Go.Proofs.YtafmbokfkbccaaaGreatDoor
