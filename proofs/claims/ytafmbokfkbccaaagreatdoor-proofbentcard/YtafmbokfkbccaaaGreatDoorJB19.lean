import Derived.Test.YtafmbokfkbccaaaGreatDoorJB12
import Derived.Test.YtafmbokfkbccaaaGreatDoorJB6
import Derived.RegionTactic
import Derived.ChangeAlike
namespace Go.Proofs.YtafmbokfkbccaaaGreatDoor
open Go.RowKit Go.Sort Go.Maps
abbrev eY (w:World) (b n:Nat) (m:fq):Prop:=ku Tryz.prog 9 3 w b n m
theorem Kind.qX {α:Type} {K:Kind α} {b:Nat} {w w':World} {v:Value} {l:List α} (h:K.sl (fun k=>k≠b) w v l) (k:Tn b w w'):K.sl (fun k=>k≠b) w' v l:=Kind.aT h k.size fun i hi hB=>k.block i hi hB
theorem Kind.Ph {α:Type} {K:Kind α} {b:Nat} {w:World} {v:Value} {l:List α} (h:K.sl bJ w v l) (hb:w.heap.size≤b):K.sl (fun k=>k≠b) w v l:=Kind.aW h fun k hk _=>by omega
theorem yG {n:Nat} (h:n≤9223372036854775807):(Lit.int .i64 (n:Int)).wf=true:=WalkArith.wf_i64 (by omega)
set_option maxRecDepth 100000 in
set_option maxHeartbeats 1000000 in
theorem QJ (b n:Nat) (m:fq) (a:aF) (v:Value) (w:World) (h:eY w b n m) (hv:dn.sl bJ w v a.terms) (hs:a.name.length≤maxLen) (hn:n<maxLen):
  Calls Tryz.prog 255 #[.map (some b),.agg #[.bool a.no,.string (bs a.name),v]] w fun e w'=>e=.returned (.bool (bY m a).1)∧eY w' b (n+1) (bY m a).2∧Tn b w w':=by
 obtain⟨sa,cap,rfl⟩:=Kind.slice hv;have hl0:=hv.1.1;clear hv;have h1:=h.later ((Later.refl w).alloc (.cells #[.bool a.no,.string (bs a.name),.slice sa a.terms.length cap] 85));have hr:=ku.JG (T:=261) h1 Tryz.underlying9 Tryz.underlying3 Tryz.underlying261 (qF _) hs;have hblt:=h.lt;cases hm:m a.name with
 |none=>
  obtain⟨w1,hst,hm1,hg⟩:=ku.store (T:=261) h1 Tryz.underlying9 Tryz.underlying3 Tryz.underlying261 hn hs (x:=a.terms.length) (yG (by omega));have e0:numOf m a.name=0:=by unfold numOf;rw[hm];rfl
  rw[hm,e0] at hr;have F:Hid (bY m a=(true,m.put a.name a.terms.length)):=by show _=_;unfold bY;rw[hm]
  have HM:Hid (eY w1 b (n+1) (m.put a.name a.terms.length)):=hm1;have HT:Hid (Tn b w w1):=(Tn.of_below (p:=b) ((Later.refl w).alloc _).below).trans (Tn.kZ hg);have hst':=hide hst;clear h h1 hm1 hg hst hm e0;generalize bs a.name=nm at*;generalize a.no=no at*
  go_enter Tryz.func255,Tryz.ntmps255
  go_wp2_with (first
   |(at_mapUpdate;refine cO _ rfl _ _ _ _ rfl _ _ _ _ rfl rfl rfl (bE hst') ?_)
   |go_in)
  go_ret;exact⟨by rw[F.out];rfl,by rw[F.out];exact HM.out,HT.out⟩
 |some k=>
  have e0:numOf m a.name=k:=by unfold numOf;rw[hm];rfl
  rw[hm,e0] at hr;have F:Hid (bY m a=(decide (k=a.terms.length),m)):=by show _=_;unfold bY;rw[hm]
  have HM:Hid (eY (w.alloc (.cells #[.bool a.no,.string (bs a.name),.slice sa a.terms.length cap] 85)) b (n+1) m):=h1.mono (by omega);clear h h1 hm e0;generalize bs a.name=nm at*;generalize a.no=no at*
  go_enter Tryz.func255,Tryz.ntmps255
  go_wp2;go_ret;refine⟨?_,by rw[F.out];exact HM.out,Tn.of_below ((Later.refl w).alloc _).below⟩;rw[F.out];refine bM ?_;rw[Bool.eq_iff_iff];simp;omega
structure dK (b:Nat) (w:World) (c0 c1 c2 c3:Value) (w':World):Prop where
 tn:Tn b w w'
 lt:w.heap.size<w'.heap.size
 z0:w'.cell? ⟨w.heap.size,0,none⟩=some c0
 z1:w'.cell? ⟨w.heap.size,1,none⟩=some c1
 z2:w'.cell? ⟨w.heap.size,2,none⟩=some c2
 z3:w'.cell? ⟨w.heap.size,3,none⟩=some c3
section
variable {b:Nat} {w w1 w2:World} {c0 c1 c2 c3:Value}
theorem dK.made (b:Nat) (w:World) (c0 c1 c2 c3:Value):dK b w c0 c1 c2 c3 (w.alloc (.cells #[c0,c1,c2,c3] 87)):=
 ⟨Tn.of_below ((Later.refl w).alloc _).below,by simp,by simp,by simp,by simp,by simp⟩
theorem dK.turned (h:dK b w c0 c1 c2 c3 w1) (k:Tn b w1 w2) (hb:b<w.heap.size):dK b w c0 c1 c2 c3 w2:=by
 have e:∀i,w2.cell? ⟨w.heap.size,i,none⟩=w1.cell? ⟨w.heap.size,i,none⟩:=fun i=>k.cell (x:=⟨w.heap.size,i,none⟩) h.lt (by show w.heap.size≠b;omega);exact⟨h.tn.trans k,Nat.lt_of_lt_of_le h.lt k.size,by rw[e];exact h.z0,by rw[e];exact h.z1,by rw[e];exact h.z2,by rw[e];exact h.z3⟩
theorem dK.below (h:dK b w c0 c1 c2 c3 w1) (k:Below w1.heap.size w1 w2) (hb:b<w.heap.size):dK b w c0 c1 c2 c3 w2:=h.turned (Tn.of_below k) hb
end
theorem Aj {l:List aF} {j:Nat} {a:aF} (h:l[j]?=some a) (m:fq):fitAll m (l.drop j)=if(bY m a).1 then fitAll (bY m a).2 (l.drop (j+1)) else(false,(bY m a).2):=by
 obtain⟨h1,e1⟩:=List.getElem?_eq_some_iff.1 h;rw[List.drop_eq_getElem_cons h1,e1];rfl
theorem qY {l:List aF} (h:bB l=0):∀a∈l,aN a=0:=by
 induction l with
 |nil=>intro a ha;cases ha
 |cons b l ih=>
  unfold bB at h;split at h
  ·rename_i h0;intro a ha;rcases List.mem_cons.1 ha with rfl|ha
   ·exact h0
   ·exact ih h a ha
  ·rename_i h0;exact absurd h h0
theorem jH {l:List aF} (h:aL l=0):l.length≤5∧∀a∈l,aN a=0:=by
 unfold aL at h;split at h
 ·cases h
 ·split at h
  ·rename_i h5 h0;exact⟨by omega,qY h0⟩
  ·rename_i h5 h0;exact absurd h h0
set_option maxRecDepth 100000 in
set_option maxHeartbeats 4000000 in
theorem Dj (b n:Nat) (m:fq) (r:aA) (v u:Value) (w:World) (h:eY w b n m) (hv0:dn.sl (fun k=>k≠b) w v r.head.terms) (hu0:bN.sl (fun k=>k≠b) w u r.body) (hn:n≤1000000):
  Calls Tryz.prog 191 #[.agg #[.bool r.head.no,.string (bs r.head.name),v,u],.map (some b)] w fun e w'=>e=.returned (.int .i64 (aU m r).1)∧eY w' b (n+6) (aU m r).2∧Tn b w w':=by
 have hbw:=h.lt;obtain⟨va,vc,rfl⟩:=Kind.slice hv0;obtain⟨ua,uc,rfl⟩:=Kind.slice hu0;have hl0:=hv0.1.1;have hl1:=hu0.1.1;have HV:=hide hv0;have HU:=hide hu0;clear hv0 hu0;have HM0:Hid (∀w',Below w.heap.size w w'→eY w' b n m):=fun w' k=>h.below k;have HA:Hid (∀w',dK b w (.bool r.head.no) (.string (bs r.head.name)) (.slice va r.head.terms.length vc) (.slice ua r.body.length uc) w'→eY w' b n m→Calls Tryz.prog 251 #[.agg #[.bool r.head.no,.string (bs r.head.name),.slice va r.head.terms.length vc]] w'
   fun e w''=>e=.returned (.int .i64 (aN r.head))∧dK b w (.bool r.head.no) (.string (bs r.head.name)) (.slice va r.head.terms.length vc) (.slice ua r.body.length uc) w''∧eY w'' b n m):=fun w' hR hM=>
  (tH r.head _ w' (Kind.dN (Kind.qX HV.out hR.tn))).mono fun e w'' ⟨he,hL⟩=>⟨he,hR.below hL.below hbw,hM.later hL⟩
 have HBd:Hid (∀w',dK b w (.bool r.head.no) (.string (bs r.head.name)) (.slice va r.head.terms.length vc) (.slice ua r.body.length uc) w'→eY w' b n m→Calls Tryz.prog 216 #[.slice ua r.body.length uc] w'
   fun e w''=>e=.returned (.int .i64 (aL r.body))∧dK b w (.bool r.head.no) (.string (bs r.head.name)) (.slice va r.head.terms.length vc) (.slice ua r.body.length uc) w''∧eY w'' b n m):=fun w' hR hM=>
  (Bz r.body _ w' (Kind.dN (Kind.qX HU.out hR.tn))).mono fun e w'' ⟨he,hL⟩=>⟨he,hR.below hL hbw,hM.below hL⟩
 have HR0:=hide (dK.made b w (.bool r.head.no) (.string (bs r.head.name)) (.slice va r.head.terms.length vc) (.slice ua r.body.length uc));have HMA:=hide (h.later ((Later.refl w).alloc (.cells #[.bool r.head.no,.string (bs r.head.name),.slice va r.head.terms.length vc,.slice ua r.body.length uc] 87)))
 by_cases h1:aN r.head=0
 ·cases hno:r.head.no
  ·by_cases h2:aL r.body=0
   ·obtain⟨hl5,hfb⟩:=jH h2;obtain⟨fn,ft,fs⟩:=bL h1;have F:Hid (aU m r=if(vars r.head).all (givenBy r.body) then(if(bY m r.head).1 then(if(fitAll (bY m r.head).2 r.body).1 then 0 else 8,(fitAll (bY m r.head).2 r.body).2) else(8,(bY m r.head).2)) else(9,m)):=by
     show _=_;unfold aU;rw[if_pos h1,hno,if_neg (by simp),if_pos h2]
    rw[hno] at HA HBd HR0 HMA;rw[h1] at HA;rw[h2] at HBd;have HGB:Hid (∀w',dK b w (.bool false) (.string (bs r.head.name)) (.slice va r.head.terms.length vc) (.slice ua r.body.length uc) w'→eY w' b n m→Calls Tryz.prog 252 #[.slice ua r.body.length uc] w' fun e w''=>e=.returned (.map (some w'.heap.size))∧dX w'' w'.heap.size 20 (givenBy r.body)∧dK b w (.bool false) (.string (bs r.head.name)) (.slice va r.head.terms.length vc) (.slice ua r.body.length uc) w''∧eY w'' b n m):=fun w' hR hM=>
     (Bw r.body _ w' (Kind.dN (Kind.qX HU.out hR.tn)) hfb hl5).mono fun e w'' ⟨he,hN,hL⟩=>⟨he,hN,hR.below hL hbw,hM.below hL⟩
    have HVr:Hid (∀w' bk,dX w' bk 20 (givenBy r.body)→dK b w (.bool false) (.string (bs r.head.name)) (.slice va r.head.terms.length vc) (.slice ua r.body.length uc) w'→eY w' b n m→Calls Tryz.prog 254 #[.agg #[.bool false,.string (bs r.head.name),.slice va r.head.terms.length vc]] w' fun e w''=>∃x,e=.returned x∧qy.sl bJ w'' x (vars r.head)∧dX w'' bk 20 (givenBy r.body)∧dK b w (.bool false) (.string (bs r.head.name)) (.slice va r.head.terms.length vc) (.slice ua r.body.length uc) w''∧eY w'' b n m):=fun w' bk hN hR hM=>by
     have:=Kl r.head _ w' (Kind.dN (Kind.qX HV.out hR.tn)) (by omega) (fun t ht=>gJ (fs t ht));rw[hno] at this;exact this.mono fun e w'' ⟨x,he,ho,hL⟩=>⟨x,he,Kind.dN (Kind.gW ho (by have:=vM r.head;omega)),hN.below hL,hR.below hL hbw,hM.below hL⟩
    have HAl:Hid (∀w' bk x,qy.sl bJ w' x (vars r.head)→dX w' bk 20 (givenBy r.body)→dK b w (.bool false) (.string (bs r.head.name)) (.slice va r.head.terms.length vc) (.slice ua r.body.length uc) w'→eY w' b n m→Calls Tryz.prog 253 #[.map (some bk),x] w' fun e w''=>e=.returned (.bool ((vars r.head).all (givenBy r.body)))∧dK b w (.bool false) (.string (bs r.head.name)) (.slice va r.head.terms.length vc) (.slice ua r.body.length uc) w''∧eY w'' b n m):=fun w' bk x hS hN hR hM=>
     (EJ _ _ _ x (vars r.head) w' hN hS (fun s hs=>by obtain⟨t,ht,rfl⟩:=vN r.head s hs;exact gJ (fs t ht))).mono fun e w'' ⟨he,hL⟩=>⟨he,hR.below hL.below hbw,hM.later hL⟩
    have HFt:Hid (∀w',dK b w (.bool false) (.string (bs r.head.name)) (.slice va r.head.terms.length vc) (.slice ua r.body.length uc) w'→eY w' b n m→Calls Tryz.prog 255 #[.map (some b),.agg #[.bool false,.string (bs r.head.name),.slice va r.head.terms.length vc]] w' fun e w''=>e=.returned (.bool (bY m r.head).1)∧dK b w (.bool false) (.string (bs r.head.name)) (.slice va r.head.terms.length vc) (.slice ua r.body.length uc) w''∧eY w'' b (n+1) (bY m r.head).2):=fun w' hR hM=>by
     have:=QJ b n m r.head _ w' hM (Kind.dN (Kind.qX HV.out hR.tn)) (gJ fn) (by simp[maxLen];omega);rw[hno] at this;exact this.mono fun e w'' ⟨he,hN,hT⟩=>⟨he,hR.turned hT hbw,hN⟩
    clear h1 h2 hno h HM0;generalize hgv:givenBy r.body=gv at*;clear hgv;generalize hall:(vars r.head).all gv=al at*;clear hall;generalize bs r.head.name=nm at*;cases al
    ·have F1:Hid (aU m r=(9,m)):=F.out;clear HV HU HFt F
     go_enter Tryz.func191,Tryz.ntmps191
     go_wp2_with (first
      |(go_at_call 251;refine(HA.out _ HR0.out HMA.out).mono ?_;rintro e w1 ⟨rfl,hR1,hM1⟩;have z0:=hR1.z0;have z3:=hR1.z3;have zl:=hR1.lt;replace hR1:=hide hR1;replace hM1:=hide hM1)
      |(go_at_call 216;refine(HBd.out w1 (bE hR1) (bE hM1)).mono ?_;rintro e w2 ⟨rfl,hR2,hM2⟩;replace hR2:=hide hR2;replace hM2:=hide hM2))
     refine wp_region_held_drew (S:=fun w'=>dK b w (.bool false) (.string nm) (.slice va r.head.terms.length vc) (.slice ua r.body.length uc) w'∧eY w' b n m) (by kernel_rfl) ⟨(bE hR2).turned (Tn.refl _ _).drew hbw,(bE hM2).block rfl⟩ (fun hHeld=> ?_);refine au (i:=0) (d:=some 24) (v:= ?_) rfl rfl hHeld ?_ ?_;rotate_left;focus intro w hSw;(try dsimp only at hSw);obtain⟨hRB,_⟩:=hSw;have z0:=hRB.z0;have z1:=hRB.z1;have z2:=hRB.z2;have z3:=hRB.z3;have zl:=hRB.lt;clear hRB;go_simp;try with_reducible rfl
     simp only[bP,bQ,aze,asu];refine au (i:=1) (d:=some 25) (v:= ?_) rfl rfl hHeld ?_ ?_;rotate_left;focus intro w hSw;(try dsimp only at hSw);obtain⟨hRB,_⟩:=hSw;have z0:=hRB.z0;have z1:=hRB.z1;have z2:=hRB.z2;have z3:=hRB.z3;have zl:=hRB.lt;clear hRB;go_simp;try with_reducible rfl
     simp only[bP,bQ,aze,asu];refine au (i:=3) (d:=some 27) (v:= ?_) rfl rfl hHeld ?_ ?_;rotate_left;focus intro w hSw;(try dsimp only at hSw);obtain⟨hRB,_⟩:=hSw;have z0:=hRB.z0;have z1:=hRB.z1;have z2:=hRB.z2;have z3:=hRB.z3;have zl:=hRB.lt;clear hRB;go_simp;try with_reducible rfl
     simp only[bP,bQ,aze,asu];refine au (i:=4) (d:=some 28) (v:= ?_) rfl rfl hHeld ?_ ?_;rotate_left;focus intro w hSw;(try dsimp only at hSw);obtain⟨hRB,_⟩:=hSw;have z0:=hRB.z0;have z1:=hRB.z1;have z2:=hRB.z2;have z3:=hRB.z3;have zl:=hRB.lt;clear hRB;go_simp;try with_reducible rfl
     simp only[bP,bQ,aze,asu];refine wpAnyH_ready (rs:=[2]) (by kernel_rfl) (by simp) ?_;refine AllReadyH.cons rfl (fun K hK=> ?_) AllReadyH.nil;go_simp;refine(HGB.out _ hHeld.1 hHeld.2).mono ?_;rintro e w3 ⟨rfl,hN3,hR3,hM3⟩;dsimp only;refine hK.out _ _ ⟨hR3,hM3⟩ (fun hHeld=> ?_);clear hK K;refine wpAnyH_ready (rs:=[5]) (by kernel_rfl) (by simp) ?_;refine AllReadyH.cons rfl (fun K hK=> ?_) AllReadyH.nil;go_simp;refine(HVr.out _ _ hN3 hHeld.1 hHeld.2).mono ?_;rintro e w4 ⟨x4,rfl,hS4,hN4,hR4,hM4⟩;dsimp only;refine hK.out _ _ ⟨hR4,hM4⟩ (fun hHeld=> ?_);clear hK K;refine wpAnyH_ready (rs:=[6]) (by kernel_rfl) (by simp) ?_;refine AllReadyH.cons rfl (fun K hK=> ?_) AllReadyH.nil;go_simp;refine(HAl.out _ _ _ hS4 hN4 hHeld.1 hHeld.2).mono ?_;rintro e w5 ⟨rfl,hR5,hM5⟩;dsimp only;refine hK.out _ _ ⟨hR5,hM5⟩ (fun hHeld=> ?_);clear hK K;refine au (i:=7) (d:=some 31) (v:= ?_) rfl rfl hHeld ?_ ?_;rotate_left;focus intro w hSw;(try dsimp only at hSw);go_simp;try with_reducible rfl
     simp only[bP,bQ,aze,asu];refine wpAnyH_done (by kernel_rfl) ?_ _;go_wp2;go_ret;exact⟨by rw[F1.out];rfl,by rw[F1.out];exact hHeld.2.mono (by omega),hHeld.1.tn⟩
    ·have F1:Hid (aU m r=if(bY m r.head).1 then(if(fitAll (bY m r.head).2 r.body).1 then 0 else 8,(fitAll (bY m r.head).2 r.body).2) else(8,(bY m r.head).2)):=F.out;clear F;generalize bY m r.head=fo at*;obtain⟨f1,m1⟩:=fo;dsimp only at*;have HU1:Hid (∀w',Tn b w w'→bN.sl (fun k=>k≠b) w' (.slice ua r.body.length uc) r.body):=fun w' k=>Kind.qX HU.out k;have BH:∀a∈r.body,a.name.length≤maxLen:=fun a ha=>gJ (bL (hfb a ha)).1;have HN:=hide BH;clear HV HU BH
     go_enter Tryz.func191,Tryz.ntmps191
     go_wp2_with (first
      |(go_at_call 251;refine(HA.out _ HR0.out HMA.out).mono ?_;rintro e w1 ⟨rfl,hR1,hM1⟩;have z0:=hR1.z0;have z3:=hR1.z3;have zl:=hR1.lt;replace hR1:=hide hR1;replace hM1:=hide hM1)
      |(go_at_call 216;refine(HBd.out w1 (bE hR1) (bE hM1)).mono ?_;rintro e w2 ⟨rfl,hR2,hM2⟩;replace hR2:=hide hR2;replace hM2:=hide hM2))
     refine wp_region_held_drew (S:=fun w'=>dK b w (.bool false) (.string nm) (.slice va r.head.terms.length vc) (.slice ua r.body.length uc) w'∧eY w' b n m) (by kernel_rfl) ⟨(bE hR2).turned (Tn.refl _ _).drew hbw,(bE hM2).block rfl⟩ (fun hHeld=> ?_);refine au (i:=0) (d:=some 24) (v:= ?_) rfl rfl hHeld ?_ ?_;rotate_left;focus intro w hSw;(try dsimp only at hSw);obtain⟨hRB,_⟩:=hSw;have z0:=hRB.z0;have z1:=hRB.z1;have z2:=hRB.z2;have z3:=hRB.z3;have zl:=hRB.lt;clear hRB;go_simp;try with_reducible rfl
     simp only[bP,bQ,aze,asu];refine au (i:=1) (d:=some 25) (v:= ?_) rfl rfl hHeld ?_ ?_;rotate_left;focus intro w hSw;(try dsimp only at hSw);obtain⟨hRB,_⟩:=hSw;have z0:=hRB.z0;have z1:=hRB.z1;have z2:=hRB.z2;have z3:=hRB.z3;have zl:=hRB.lt;clear hRB;go_simp;try with_reducible rfl
     simp only[bP,bQ,aze,asu];refine au (i:=3) (d:=some 27) (v:= ?_) rfl rfl hHeld ?_ ?_;rotate_left;focus intro w hSw;(try dsimp only at hSw);obtain⟨hRB,_⟩:=hSw;have z0:=hRB.z0;have z1:=hRB.z1;have z2:=hRB.z2;have z3:=hRB.z3;have zl:=hRB.lt;clear hRB;go_simp;try with_reducible rfl
     simp only[bP,bQ,aze,asu];refine au (i:=4) (d:=some 28) (v:= ?_) rfl rfl hHeld ?_ ?_;rotate_left;focus intro w hSw;(try dsimp only at hSw);obtain⟨hRB,_⟩:=hSw;have z0:=hRB.z0;have z1:=hRB.z1;have z2:=hRB.z2;have z3:=hRB.z3;have zl:=hRB.lt;clear hRB;go_simp;try with_reducible rfl
     simp only[bP,bQ,aze,asu];refine wpAnyH_ready (rs:=[2]) (by kernel_rfl) (by simp) ?_;refine AllReadyH.cons rfl (fun K hK=> ?_) AllReadyH.nil;go_simp;refine(HGB.out _ hHeld.1 hHeld.2).mono ?_;rintro e w3 ⟨rfl,hN3,hR3,hM3⟩;dsimp only;refine hK.out _ _ ⟨hR3,hM3⟩ (fun hHeld=> ?_);clear hK K;refine wpAnyH_ready (rs:=[5]) (by kernel_rfl) (by simp) ?_;refine AllReadyH.cons rfl (fun K hK=> ?_) AllReadyH.nil;go_simp;refine(HVr.out _ _ hN3 hHeld.1 hHeld.2).mono ?_;rintro e w4 ⟨x4,rfl,hS4,hN4,hR4,hM4⟩;dsimp only;refine hK.out _ _ ⟨hR4,hM4⟩ (fun hHeld=> ?_);clear hK K;refine wpAnyH_ready (rs:=[6]) (by kernel_rfl) (by simp) ?_;refine AllReadyH.cons rfl (fun K hK=> ?_) AllReadyH.nil;go_simp;refine(HAl.out _ _ _ hS4 hN4 hHeld.1 hHeld.2).mono ?_;rintro e w5 ⟨rfl,hR5,hM5⟩;dsimp only;refine hK.out _ _ ⟨hR5,hM5⟩ (fun hHeld=> ?_);clear hK K;refine au (i:=7) (d:=some 31) (v:= ?_) rfl rfl hHeld ?_ ?_;rotate_left;focus intro w hSw;(try dsimp only at hSw);go_simp;try with_reducible rfl
     simp only[bP,bQ,aze,asu];refine wpAnyH_done (by kernel_rfl) ?_ _;have HC:=hide (HFt.out _ hHeld.1 hHeld.2);have y0:=hHeld.1.z0;have y1:=hHeld.1.z1;have y2:=hHeld.1.z2;have yl:=hHeld.1.lt;clear z0 z3 zl hR1 hM1 hR2 hM2 hN3 hR3 hM3 hS4 hN4 hR4 hM4 hR5 hM5 hHeld HA HBd HGB HVr HAl HR0 HMA HFt;cases f1
     ·have F2:Hid (aU m r=(8,m1)):=F1.out
      go_wp2_with (go_at_call 255;refine HC.out.mono ?_;rintro e w6 ⟨rfl,hR6,hM6⟩;replace hR6:=hide hR6;replace hM6:=hide hM6)
      go_ret;exact⟨by rw[F2.out];rfl,by rw[F2.out];exact(bE hM6).mono (by omega),(bE hR6).tn⟩
     ·have F2:Hid (aU m r=(if(fitAll m1 r.body).1 then 0 else 8,(fitAll m1 r.body).2)):=F1.out;clear F1
      go_wp2_with (go_at_call 255;refine HC.out.mono ?_;rintro e w6 ⟨rfl,hR6,hM6⟩;have x3:=hR6.z3;have xl:=hR6.lt;have HT6:=hide hR6.tn;clear hR6;replace hM6:=hide hM6)
      go_loopg [40] r.body.length (fun k i wr=>∃j:Nat,j+k=r.body.length∧i=.int .i64 j∧∃mj,Hid (fitAll m1 r.body=fitAll mj (r.body.drop j))∧Hid (eY wr b (n+1+j) mj)∧Hid (Tn b w wr))
      case atStart=>exact⟨0,by omega,rfl,m1,(rfl:_=_),hM6,HT6⟩
      case round=>
       obtain⟨j,hj,rfl,mj,HE,HMj,HTj⟩:=hrel;have hwr:=HTj.out.size
       by_cases hlt:j<r.body.length
       ·obtain⟨x,hx⟩:∃x,r.body[j]?=some x:=⟨_,List.getElem?_eq_getElem hlt⟩;obtain⟨b1,o1,_,rfl,hb1,hbne,⟨sv,rfl,hsv⟩,hc⟩:=Kind.Bt (HU1.out wr HTj.out) hx;have d0:wr.cell? ⟨b1,o1+j*3,none⟩=some (.bool x.no):=hc 0 _ rfl;have d1:wr.cell? ⟨b1,o1+j*3+1,none⟩=some (.string (bs x.name)):=hc 1 _ rfl;have d2:wr.cell? ⟨b1,o1+j*3+2,none⟩=some sv:=hc 2 _ rfl;have hst:=Aj hx mj;have HCj:Hid (Calls Tryz.prog 255 #[.map (some b),.agg #[.bool x.no,.string (bs x.name),sv]] (wr.alloc (.cells #[.bool x.no,.string (bs x.name),sv] 85)) fun e w2=>e=.returned (.bool (bY mj x).1)∧Hid (eY w2 b (n+1+(j+1)) (bY mj x).2)∧Hid (Tn b w w2)):=
         (QJ b (n+1+j) mj x sv _ (HMj.out.later ((Later.refl _).alloc _)) (Kind.dN (Kind.aR (Kind.dN hsv) ((Later.refl _).alloc _).below)) (HN.out x (List.mem_of_getElem? hx)) (by simp[maxLen];omega)).mono fun e w2 ⟨he,h1,h2⟩=>⟨he,h1,(HTj.out.alloc _).trans h2⟩
        obtain⟨a2,c2,rfl⟩:=Kind.slice hsv;clear hc hx hsv HMj HTj;generalize bs x.name=nx at*;generalize x.no=xn at*;generalize bY mj x=fx at*;obtain⟨g1,m2⟩:=fx;dsimp only at*;cases g1
        ·have E2:Hid (fitAll m1 r.body=(false,m2)):=by show _=_;rw[HE.out,hst];rfl
         clear hst HE
         go_wp2_with (go_at_call 255;refine HCj.out.mono ?_;rintro e w7 ⟨rfl,hM7,hT7⟩)
         go_ret;exact⟨by rw[F2.out,E2.out];rfl,by rw[F2.out,E2.out];exact hM7.out.mono (by omega),hT7.out⟩
        ·have E2:Hid (fitAll m1 r.body=fitAll m2 (r.body.drop (j+1))):=by show _=_;rw[HE.out,hst];rfl
         clear hst HE
         go_wp2_with (go_at_call 255;refine HCj.out.mono ?_;rintro e w7 ⟨rfl,hM7,hT7⟩)
         go_roundg (r.body.length- (j+1))
         case measure=>omega
         case rel=>exact⟨j+1,by omega,by go_num,m2,E2,hM7,hT7⟩
       ·have E2:Hid (fitAll m1 r.body=(true,mj)):=by show _=_;rw[HE.out,List.drop_eq_nil_of_le (by omega)];rfl
        go_wp2;go_ret;exact⟨by rw[F2.out,E2.out];rfl,by rw[F2.out,E2.out];exact HMj.out.mono (by omega),HTj.out⟩
   ·have F:Hid (aU m r=(aL r.body,m)):=by show _=_;unfold aU;rw[if_pos h1,hno,if_neg (by simp),if_neg h2]
    have hq:(aL r.body != 0)=true:=by simpa using h2
    rw[hno] at HA HBd HR0 HMA;rw[h1] at HA;clear h1 h2 hno h HM0 HV HU;generalize bs r.head.name=nm at*;generalize aL r.body=ex at*
    go_enter Tryz.func191,Tryz.ntmps191
    go_wp2_with (first
     |(go_at_call 251;refine(HA.out _ HR0.out HMA.out).mono ?_;rintro e w1 ⟨rfl,hR1,hM1⟩;have z0:=hR1.z0;have z3:=hR1.z3;have zl:=hR1.lt;replace hR1:=hide hR1;replace hM1:=hide hM1)
     |(go_at_call 216;refine(HBd.out w1 (bE hR1) (bE hM1)).mono ?_;rintro e w2 ⟨rfl,hR2,hM2⟩;replace hR2:=hide hR2;replace hM2:=hide hM2))
    go_ret;exact⟨by rw[F.out];rfl,by rw[F.out];exact(bE hM2).mono (by omega),(bE hR2).tn⟩
  ·have F:Hid (aU m r=(2,m)):=by show _=_;unfold aU;rw[if_pos h1,hno,if_pos rfl]
   rw[hno] at HA HR0 HMA;rw[h1] at HA;clear h1 hno h HM0 HV HU HBd;generalize bs r.head.name=nm at*
   go_enter Tryz.func191,Tryz.ntmps191
   go_wp2_with (go_at_call 251;refine(HA.out _ HR0.out HMA.out).mono ?_;rintro e w1 ⟨rfl,hR1,hM1⟩;have z0:=hR1.z0;have zl:=hR1.lt;replace hR1:=hide hR1;replace hM1:=hide hM1)
   go_ret;exact⟨by rw[F.out];rfl,by rw[F.out];exact(bE hM1).mono (by omega),(bE hR1).tn⟩
 ·have F:Hid (aU m r=(aN r.head,m)):=by show _=_;unfold aU;rw[if_neg h1]
  have hq:(aN r.head != 0)=true:=by simpa using h1
  clear h1 h HM0 HV HU HBd;generalize aN r.head=ex at*;generalize bs r.head.name=nm at*;generalize r.head.no=no at*
  go_enter Tryz.func191,Tryz.ntmps191
  go_wp2_with (go_at_call 251;refine(HA.out _ HR0.out HMA.out).mono ?_;rintro e w1 ⟨rfl,hR1,hM1⟩;replace hR1:=hide hR1;replace hM1:=hide hM1)
  go_ret;exact⟨by rw[F.out];rfl,by rw[F.out];exact(bE hM1).mono (by omega),(bE hR1).tn⟩
end Go.Proofs.YtafmbokfkbccaaaGreatDoor
namespace Go.Proofs.YtafmbokfkbccaaaGreatDoor
open Go.RowKit Go.Sort Go.Maps
theorem Kind.oq {α:Type} {K:Kind α} {b:Nat} {w w':World} {v:Value} {l:List α} (h:K.sl bJ w v l) (k:Below w.heap.size w w') (hb:w.heap.size≤b):K.sl (fun k=>k≠b) w' v l:=
 Kind.aT (Kind.Ph h hb) k.size fun i hi _=>k.block i hi
theorem yH {p:List aA} {j:Nat} {r:aA} (h:p[j]?=some r) (m:fq) (i:Nat):iO m i (p.drop j)=if(aU m r).1=0 then iO (aU m r).2 (i+1) (p.drop (j+1)) else((aU m r).1,i):=by
 obtain⟨h1,e1⟩:=List.getElem?_eq_some_iff.1 h;rw[List.drop_eq_getElem_cons h1,e1];rfl
theorem qZ {w:World} {g j:Nat} {cs:Array Value} {t:TypeId} {fr:Nat×Nat} (h:w.heap[g]?=some (.cells cs t fr)) (u:Value):(w.setCell ⟨g,j,none⟩ u).heap[g]?=some (.cells (cs.setIfInBounds j u) t fr):=by
 simp[World.setCell,Array.getElem?_modify,h]
theorem bK {w:World} {g:Nat} (j:Nat) {cs:Array Value} {t:TypeId} (h:w.heap[g]?=some (.cells cs t (0,0))):w.frozen? ⟨g,j,none⟩=false:=by
 simp[World.frozen?,h]
theorem iL {w:World} {R:Nat} {u0 u1:Value} {t:TypeId} {fr:Nat×Nat} (h:w.heap[R]?=some (.cells #[u0,u1] t fr)) (x y:Value):
  ((w.setCell ⟨R,0,none⟩ x).setCell ⟨R,1,none⟩ y).cell? ⟨R,0,none⟩=some x∧((w.setCell ⟨R,0,none⟩ x).setCell ⟨R,1,none⟩ y).cell? ⟨R,1,none⟩=some y:=by
 have h2:=qZ (j:=1) (qZ (j:=0) h x) y;exact⟨by rw[cell_of_row _ _ _ _ _ _ h2];rfl,by rw[cell_of_row _ _ _ _ _ _ h2];rfl⟩
theorem uo {a b c d:Int} (h1:a=c) (h2:b=d):Ending.returned (.agg #[.int .i64 a,.int .i64 b])=Ending.returned (.agg #[.int .i64 c,.int .i64 d]):=by rw[h1,h2]
set_option maxRecDepth 100000 in
set_option maxHeartbeats 4000000 in
theorem M5 (p:List aA) (v:Value) (w:World) (hv:eD.sl bJ w v p):
  Calls Tryz.prog 117 #[v] w fun e w'=>e=.returned (.agg #[.int .i64 (gG p).1,.int .i64 ((gG p).2:Nat)])∧Below w.heap.size w w':=by
 obtain⟨sa,cap,rfl⟩:=Kind.slice hv;have hl0:=hv.1.1;have HV:=hide hv;clear hv
 by_cases h16:16<p.length
 ·have F:Hid (gG p=(5,0)):=by show _=_;unfold gG;rw[if_pos h16]
  go_enter Tryz.func117,Tryz.ntmps117
  go_wp2;exact bodyPost_ret (v:=.agg #[.int .i64 5,.int .i64 0]) (by simp[results,Tryz.results117,go_sem]) rfl ⟨by rw[F.out];rfl,((by repeat (first|exact Later.refl _|assumption|refine Later.drewN ?_ _|refine Later.drew ?_|refine Later.alloc ?_ _|refine Later.grow ?_ _)):Later w _).below⟩
 ·have F:Hid (gG p=iO (fun _=>none) 0 p):=by show _=_;unfold gG;rw[if_neg h16]
  have hmm:= @run_makeMap Tryz.prog
  go_enter Tryz.func117,Tryz.ntmps117
  go_wp2
  go_loopg [14] p.length (fun k i wr=>∃j:Nat,j+k=p.length∧i=.int .i64 j∧∃m,Hid (gG p=iO m j (p.drop j))∧Hid (eY wr (w.heap.size+1) (6*j) m)∧Hid (Below w.heap.size w wr)∧Hid (wr.heap[w.heap.size]?=some (.cells #[.int .i64 0,.int .i64 0] 75 (0,0)))∧w.heap.size+2≤wr.heap.size)
  case atStart=>
   refine⟨0,by omega,rfl,fun _=>none,F.out,?_,?_,?_,by simp⟩
   ·have:=ku.made Tryz.prog 9 3 (w.alloc (.cells #[.int .i64 0,.int .i64 0] 75));rw[World.size_alloc] at this;exact this
   ·exact(((Later.refl w).alloc _).alloc _).below
   ·show _=_;rw[Below.heap_alloc _ _ _ (by simp),heap_alloc_new]
  case round=>
   obtain⟨j,hj,rfl,m,HE,HM,HB,HR,hsz⟩:=hrel
   by_cases hlt:j<p.length
   ·obtain⟨r,hr⟩:∃x,p[j]?=some x:=⟨_,List.getElem?_eq_getElem hlt⟩;obtain⟨b1,o1,_,rfl,hb1,⟨sv,su,rfl,hsv,hsu⟩,hc⟩:=Kind.fP HV.out hr;have d0:wr.cell? ⟨b1,o1+j*4,none⟩=some (.bool r.head.no):=by rw[HB.out.cell hb1];exact hc 0 _ rfl
    have d1:wr.cell? ⟨b1,o1+j*4+1,none⟩=some (.string (bs r.head.name)):=by rw[HB.out.cell hb1];exact hc 1 _ rfl
    have d2:wr.cell? ⟨b1,o1+j*4+2,none⟩=some sv:=by rw[HB.out.cell hb1];exact hc 2 _ rfl
    have d3:wr.cell? ⟨b1,o1+j*4+3,none⟩=some su:=by rw[HB.out.cell hb1];exact hc 3 _ rfl
    have hbr:b1<wr.heap.size:=by omega
    have hst:=yH hr m j;have hB1:Below w.heap.size w (wr.alloc (.cells #[.bool r.head.no,.string (bs r.head.name),sv,su] 87)):=HB.out.alloc HB.out.size _;have HC:Hid (Calls Tryz.prog 191 #[.agg #[.bool r.head.no,.string (bs r.head.name),sv,su],.map (some (w.heap.size+1))] (wr.alloc (.cells #[.bool r.head.no,.string (bs r.head.name),sv,su] 87)) fun e w2=>e=.returned (.int .i64 (aU m r).1)∧
      Hid (eY w2 (w.heap.size+1) (6*(j+1)) (aU m r).2)∧Hid (Below w.heap.size w w2)∧w2.heap[w.heap.size]?=some (.cells #[.int .i64 0,.int .i64 0] 75 (0,0))∧w.heap.size+2≤w2.heap.size):=
     (Dj (w.heap.size+1) (6*j) m r sv su _ (HM.out.later ((Later.refl _).alloc _)) (Kind.oq hsv hB1 (by omega)) (Kind.oq hsu hB1 (by omega)) (by omega)).mono fun e w2 ⟨he,h1,h2⟩=>
      ⟨he,h1,ak hB1 (h2.below (n:=w.heap.size) (by omega) (by simp;omega)) (Nat.le_refl _),by rw[h2.block w.heap.size (by simp;omega) (by omega),Below.heap_alloc _ _ _ (by omega)];exact HR.out,by have:=h2.size;simp at this;omega⟩
    obtain⟨a2,c2,rfl⟩:=Kind.slice hsv;obtain⟨a3,c3,rfl⟩:=Kind.slice hsu;clear hc hr hsv hsu hB1 HM HB HR;generalize aU m r=wrr at*;obtain⟨ex,m2⟩:=wrr;dsimp only at*;generalize bs r.head.name=nm at*;generalize r.head.no=no at*
    by_cases h0:ex=0
    ·subst h0;have E2:Hid (gG p=iO m2 (j+1) (p.drop (j+1))):=by show _=_;rw[HE.out,hst];rfl
     clear hst HE
     go_wp2_with (go_at_call 191;refine HC.out.mono ?_;rintro e w2 ⟨rfl,hM2,hB2,hR2,hs2⟩;replace hR2:=hide hR2)
     go_roundg (p.length- (j+1))
     case measure=>omega
     case rel=>exact⟨j+1,by omega,by go_num,m2,E2,hM2,hB2,hR2,hs2⟩
    ·have E2:Hid (gG p=(ex,j)):=by show _=_;rw[HE.out,hst,if_neg h0]
     have hq:(ex != 0)=true:=by simpa using h0
     clear hst HE h0
     go_wp2_with (go_at_call 191;refine HC.out.mono ?_;rintro e w2 ⟨rfl,hM2,hB2,hR2,hs2⟩;have q0:w2.cell? ⟨w.heap.size,0,none⟩=some (.int .i64 0):=(by rw[cell_of_row _ _ _ _ _ _ hR2];rfl);have q1:w2.cell? ⟨w.heap.size,1,none⟩=some (.int .i64 0):=(by rw[cell_of_row _ _ _ _ _ _ hR2];rfl);have p0:w2.frozen? ⟨w.heap.size,0,none⟩=false:=bK 0 hR2;have p1:w2.frozen? ⟨w.heap.size,1,none⟩=false:=bK 1 hR2;replace hR2:=hide hR2)
     obtain⟨r0,r1⟩:=iL (bE hR2) (.int .i64 ex) (.int .i64 j);refine bodyPost_ret (v:=.agg #[.int .i64 ex,.int .i64 j]) (by simp[results,Tryz.results117,go_sem,r0,r1]) rfl ⟨uo (by rw[E2.out]) (by rw[E2.out]),?_⟩;exact(hB2.out.setCell (Nat.le_refl _) _).setCell (Nat.le_refl _) _
   ·have E2:Hid (gG p=(0,0)):=by show _=_;rw[HE.out,List.drop_eq_nil_of_le (by omega)];rfl
    have hR2:=HR.out;have q0:wr.cell? ⟨w.heap.size,0,none⟩=some (.int .i64 0):=by rw[cell_of_row _ _ _ _ _ _ hR2];rfl
    have q1:wr.cell? ⟨w.heap.size,1,none⟩=some (.int .i64 0):=by rw[cell_of_row _ _ _ _ _ _ hR2];rfl
    have p0:wr.frozen? ⟨w.heap.size,0,none⟩=false:=bK 0 hR2;have p1:wr.frozen? ⟨w.heap.size,1,none⟩=false:=bK 1 hR2;clear hR2;go_wp2;obtain⟨r0,r1⟩:=iL HR.out (.int .i64 0) (.int .i64 0);refine bodyPost_ret (v:=.agg #[.int .i64 0,.int .i64 0]) (by simp[results,Tryz.results117,go_sem,r0,r1]) rfl ⟨uo (by rw[E2.out]) (by rw[E2.out];rfl),?_⟩;exact(HB.out.setCell (Nat.le_refl _) _).setCell (Nat.le_refl _) _
end Go.Proofs.YtafmbokfkbccaaaGreatDoor
namespace Go.Proofs.YtafmbokfkbccaaaGreatDoor
open Go.RowKit Go.Sort Go.Maps
set_option maxRecDepth 100000 in
set_option maxHeartbeats 1000000 in
theorem KN (b n c:Nat) (m:fq) (a:aF) (v:Value) (w:World) (h:eY w b n m) (hv:dn.sl bJ w v a.terms) (hs:a.name.length≤maxLen) (hc:numOf m a.name≤c) (hcc:c≤1000000):
  Calls Tryz.prog 192 #[.map (some b),.agg #[.bool a.no,.string (bs a.name),v]] w fun e w'=>e=.returned (.int .i64 (behind m a:Nat))∧Later w w':=by
 obtain⟨sa,cap,rfl⟩:=Kind.slice hv;clear hv;have h1:=h.later ((Later.refl w).alloc (.cells #[.bool a.no,.string (bs a.name),.slice sa a.terms.length cap] 85));have hr:=ku.JG (T:=193) h1 Tryz.underlying9 Tryz.underlying3 Tryz.underlying193 (qF _) hs;clear h h1;cases hm:m a.name with
 |none=>
  have e0:numOf m a.name=0:=by unfold numOf;rw[hm];rfl
  have F:Hid (behind m a=0):=by show _=_;unfold behind;rw[hm]
  rw[hm,e0] at hr;clear hm e0 hc;generalize bs a.name=nm at*;generalize a.no=no at*
  go_enter Tryz.func192,Tryz.ntmps192
  go_wp2;go_ret;exact⟨by rw[F.out];rfl,(Later.refl _).alloc _⟩
 |some k=>
  have e0:numOf m a.name=k:=by unfold numOf;rw[hm];rfl
  have F:Hid (behind m a=if a.no then k+1 else k):=by show _=_;unfold behind;rw[hm]
  rw[hm,e0] at hr;rw[e0] at hc;clear hm e0;generalize bs a.name=nm at*;generalize a.no=no at*;cases no
  ·go_enter Tryz.func192,Tryz.ntmps192
   go_wp2;go_ret;exact⟨by rw[F.out];rfl,(Later.refl _).alloc _⟩
  ·have F2:Hid (((behind m a:Nat):Int)=(k:Int)+1):=by show _=_;rw[F.out];simp
   go_enter Tryz.func192,Tryz.ntmps192
   go_wp2;go_ret;exact⟨by rw[F2.out];rfl,(Later.refl _).alloc _⟩
theorem yI {m:fq} {c:Nat} (h:∀s,numOf m s≤c) (a:aF):behind m a≤c+1:=by
 have:=h a.name;unfold numOf at this;unfold behind;cases hm:m a.name with
 |none=>simp
 |some k=>rw[hm] at this;simp at this;simp only;split <;> omega
theorem Ak {h:Bs} {x:fq×Bool} {c:Nat} (hc:∀s,numOf x.1 s≤c) (a:aF):∀s,numOf (bC h x a).1 s≤c+1:=by
 intro s;unfold bC;split
 ·show numOf (x.1.put _ _) s≤_;rw[jL];split
  ·exact yI hc a
  ·have:=hc s;omega
 ·have:=hc s;omega
theorem vX {l:List aF} {q:Nat} {a:aF} (h:l[q]?=some a) (s:Bs) (y:fq×Bool):(l.drop q).foldl (bC s) y=(l.drop (q+1)).foldl (bC s) (bC s y a):=by
 obtain⟨h1,e1⟩:=List.getElem?_eq_some_iff.1 h;rw[List.drop_eq_getElem_cons h1,e1];rfl
theorem yJ {p:List aA} {j:Nat} {r:aA} (h:p[j]?=some r) (x:fq×Bool):liftAll x (p.drop j)=liftAll (iV x r) (p.drop (j+1)):=by
 obtain⟨h1,e1⟩:=List.getElem?_eq_some_iff.1 h;rw[List.drop_eq_getElem_cons h1,e1];rfl
def IC (r:aA):Prop:=r.head.name.length≤maxLen∧r.body.length≤5∧∀a∈r.body,a.name.length≤maxLen
set_option maxRecDepth 100000 in
set_option maxHeartbeats 4000000 in
theorem KO (b n c:Nat) (m:fq) (p:List aA) (v:Value) (w:World) (h:eY w b n m) (hv:eD.sl (fun k=>k≠b) w v p) (hf:∀r∈p,IC r) (hp:p.length≤16) (hc:∀s,numOf m s≤c) (hn:n≤100000) (hcc:c≤100000):
  Calls Tryz.prog 118 #[.map (some b),v] w fun e w'=>e=.returned (.bool (liftAll (m,false) p).2)∧eY w' b (n+80) (liftAll (m,false) p).1∧Tn b w w'∧∀s,numOf (liftAll (m,false) p).1 s≤c+80:=by
 have hbw:=h.lt;obtain⟨sa,cap,rfl⟩:=Kind.slice hv;have HV:=hide hv;have HF:=hide hf;have H0:=hide h;have HC0:=hide hc;clear hv hf h hc
 go_enter Tryz.func118,Tryz.ntmps118
 go_wp2
 go_loopg [5,13] p.length (fun k s5 i wr=>∃j:Nat,j+k=p.length∧i=.int .i64 j∧∃x:fq×Bool,s5=.bool x.2∧Hid (liftAll (m,false) p=liftAll x (p.drop j))∧Hid (eY wr b (n+5*j) x.1)∧Hid (Tn b w wr)∧Hid (∀s,numOf x.1 s≤c+5*j))
 case atStart=>exact⟨0,by omega,rfl,(m,false),rfl,(rfl:_=_),H0,Tn.refl _ _,HC0⟩
 case round=>
  obtain⟨j,hj,rfl,x,rfl,HE,HM,HT,HC⟩:=hrel;have hwr:=HT.out.size
  by_cases hlt:j<p.length
  ·obtain⟨r,hr⟩:∃x,p[j]?=some x:=⟨_,List.getElem?_eq_getElem hlt⟩;obtain⟨b1,o1,_,rfl,hb1,hbne,⟨sv,su,rfl,hsv,hsu⟩,hcl⟩:=Kind.Bt HV.out hr;have d0:wr.cell? ⟨b1,o1+j*4,none⟩=some (.bool r.head.no):=by rw[HT.out.cell hb1 hbne];exact hcl 0 _ rfl
   have d1:wr.cell? ⟨b1,o1+j*4+1,none⟩=some (.string (bs r.head.name)):=by rw[HT.out.cell hb1 hbne];exact hcl 1 _ rfl
   have d2:wr.cell? ⟨b1,o1+j*4+2,none⟩=some sv:=by rw[HT.out.cell hb1 hbne];exact hcl 2 _ rfl
   have d3:wr.cell? ⟨b1,o1+j*4+3,none⟩=some su:=by rw[HT.out.cell hb1 hbne];exact hcl 3 _ rfl
   obtain⟨f1,f2,f3⟩:=HF.out r (List.mem_of_getElem? hr);have HS:=hide (yJ hr x);obtain⟨a2,c2,rfl⟩:=Kind.slice hsv;obtain⟨a3,c3,rfl⟩:=Kind.slice hsu;have HSU:=hide hsu;have HF3:=hide f3;have hbl:r.body.length≤5:=f2;have hjp:j<16:=by omega
   have hbr:b1<wr.heap.size:=by omega
   clear hcl hr hsv hsu f3 f2;have Us:b<wr.heap.size:=by omega
   have HM1:=hide (HM.out.later ((Later.refl wr).alloc (.cells #[.bool r.head.no,.string (bs r.head.name),.slice a2 r.head.terms.length c2,.slice a3 r.body.length c3] 87)));have HT1:=hide (HT.out.alloc (.cells #[.bool r.head.no,.string (bs r.head.name),.slice a2 r.head.terms.length c2,.slice a3 r.body.length c3] 87));have HZ1:Hid ((wr.alloc (.cells #[.bool r.head.no,.string (bs r.head.name),.slice a2 r.head.terms.length c2,.slice a3 r.body.length c3] 87)).cell? ⟨wr.heap.size,1,none⟩=some (.string (bs r.head.name))):=by show _=_;simp
   have hR1:wr.heap.size<(wr.alloc (.cells #[.bool r.head.no,.string (bs r.head.name),.slice a2 r.head.terms.length c2,.slice a3 r.body.length c3] 87)).heap.size:=by simp
   generalize hnm:bs r.head.name=nm at*;have HNM:=hide hnm;clear hnm;generalize r.head.no=no at*;generalize hR:wr.heap.size=R at*;clear HM HT;go_wp2
   go_loopg [5,20] r.body.length (fun k s5 i wr2=>∃q:Nat,q+k=r.body.length∧i=.int .i64 q∧∃y:fq×Bool,s5=.bool y.2∧Hid (iV x r=(r.body.drop q).foldl (bC r.head.name) y)∧Hid (eY wr2 b (n+5*j+q) y.1)∧Hid (Tn b w wr2)∧R<wr2.heap.size∧wr2.cell? ⟨R,1,none⟩=some (.string nm)∧Hid (∀s,numOf y.1 s≤c+5*j+q))
   case atStart=>
    refine⟨0,by omega,rfl,x,rfl,(rfl:_=_),?_,?_,?_,?_,HC⟩
    ·first|exact HM1|(subst hR;exact HM1)
    ·first|exact HT1|(subst hR;exact HT1)
    ·first|exact hR1|(subst hR;exact hR1)
    ·first|exact HZ1.out|(subst hR;exact HZ1.out)
   case round=>
    obtain⟨q,hq,rfl,y,rfl,HE2,HMy,HTy,hRs,z1,HCy⟩:=hrel;clear HM1 HT1 HZ1 hR1 d0 d1 d2 d3;have hwr2:=HTy.out.size
    by_cases hlq:q<r.body.length
    ·obtain⟨a,ha⟩:∃x,r.body[q]?=some x:=⟨_,List.getElem?_eq_getElem hlq⟩;obtain⟨b2,o2,_,rfl,hb2,KP,⟨tv,rfl,htv⟩,hcl⟩:=Kind.Bt HSU.out ha;have d0:wr.cell? ⟨b2,o2+q*3,none⟩=some (.bool a.no):=by rw[HTy.out.cell hb2 KP];exact hcl 0 _ rfl
     have d1:wr.cell? ⟨b2,o2+q*3+1,none⟩=some (.string (bs a.name)):=by rw[HTy.out.cell hb2 KP];exact hcl 1 _ rfl
     have d2:wr.cell? ⟨b2,o2+q*3+2,none⟩=some tv:=by rw[HTy.out.cell hb2 KP];exact hcl 2 _ rfl
     have Sr:b2<wr.heap.size:=by omega
     have hst:=vX ha r.head.name y;have hle:=Ak (h:=r.head.name) HCy.out a;have HLE:=hide hle;clear hle;have HBh:Hid (Calls Tryz.prog 192 #[.map (some b),.agg #[.bool a.no,.string (bs a.name),tv]] (wr.alloc (.cells #[.bool a.no,.string (bs a.name),tv] 85)) fun e w2=>e=.returned (.int .i64 (behind y.1 a:Nat))∧
       (Instr.lookup 193 (.map (some b)) (.string nm) false).run Tryz.prog w2=.ok (.int .i64 (numOf y.1 r.head.name:Nat)) w2∧Hid (eY w2 b (n+5*j+q) y.1)∧Hid (Tn b w w2)∧R<w2.heap.size∧w2.cell? ⟨R,1,none⟩=some (.string nm)):=by
      have hbz:b≠R:=by omega
      refine(KN b (n+5*j+q) (c+5*j+q) y.1 a tv _ (HMy.out.later ((Later.refl _).alloc _)) (Kind.aR (Kind.dN (Kind.qX htv HTy.out)) ((Later.refl _).alloc _).below) (HF3.out a (List.mem_of_getElem? ha)) (HCy.out a.name) (by omega)).mono fun e w2 ⟨he,hL⟩=> ?_;have hLL:=((Later.refl wr).alloc (.cells #[.bool a.no,.string (bs a.name),tv] 85)).trans hL;have hM2:=HMy.out.later hLL;refine⟨he,?_,hM2,HTy.out.trans (Tn.of_below hLL.below),Nat.lt_of_lt_of_le hRs hLL.size,by rw[hLL.cell (p:=⟨R,1,none⟩) hRs];exact z1⟩;rw[←HNM.out];exact ku.look (T:=193) hM2 Tryz.underlying9 Tryz.underlying3 Tryz.underlying193 (qF _) f1
     obtain⟨a4,c4,rfl⟩:=Kind.slice htv
     by_cases hlf:numOf y.1 r.head.name<behind y.1 a
     ·have E3:Hid (bC r.head.name y a=(y.1.put r.head.name (behind y.1 a),true)):=by show _=_;unfold bC;rw[if_pos hlf]
      have HST:Hid (∀w2,Hid (eY w2 b (n+5*j+q) y.1)→Hid (Tn b w w2)→R<w2.heap.size→w2.cell? ⟨R,1,none⟩=some (.string nm)→∃w3,(Instr.mapUpdate 193 (.map (some b)) (.string nm) (.int .i64 (behind y.1 a:Nat))).run Tryz.prog w2=.ok () w3∧Hid (eY w3 b (n+5*j+(q+1)) (y.1.put r.head.name (behind y.1 a)))∧Hid (Tn b w w3)∧R<w3.heap.size∧w3.cell? ⟨R,1,none⟩=some (.string nm)):=fun w2 hM2 hT2 hs2 hz2=>by
       have hbh:=yI HCy.out a;obtain⟨w3,hrun,hM3,hg⟩:=ku.store (T:=193) hM2.out Tryz.underlying9 Tryz.underlying3 Tryz.underlying193 (by simp[maxLen];omega) f1 (x:=behind y.1 a) (yG (by omega));rw[HNM.out] at hrun;exact⟨w3,hrun,hM3,hT2.out.trans (Tn.kZ hg),Nat.lt_of_lt_of_le hs2 hg.size,by rw[(Tn.kZ hg).cell (x:=⟨R,1,none⟩) hs2 (by show R≠b;omega)];exact hz2⟩
      have E4:Hid (iV x r=(r.body.drop (q+1)).foldl (bC r.head.name) (y.1.put r.head.name (behind y.1 a),true)):=by show _=_;rw[HE2.out,hst,E3.out]
      have Pj:Hid (∀s,numOf (y.1.put r.head.name (behind y.1 a)) s≤c+5*j+(q+1)):=by intro s;have:=HLE.out s;rw[E3.out] at this;exact this
      have hlz:((numOf y.1 r.head.name:Nat):Int)<((behind y.1 a:Nat):Int):=by omega
      clear hcl ha htv hst HE2 HMy HTy HCy HLE E3 hlf;generalize y.1.put r.head.name (behind y.1 a)=m3 at*;generalize behind y.1 a=be at*;generalize numOf y.1 r.head.name=nu at*;generalize bs a.name=na at*;generalize a.no=an at*
      go_wp2_with (first
       |(go_at_call 192;refine HBh.out.mono ?_;rintro e w2 ⟨rfl,hlk,hM2,hT2,hs2,hz2⟩;obtain⟨w3,hup,hM3,hT3,hs3,hz3⟩:=HST.out w2 hM2 hT2 hs2 hz2;replace hlk:=hide hlk;replace hup:=hide hup;replace hz3:=hide hz3)
       |(at_lookup;refine eX _ rfl _ _ _ _ rfl _ _ _ rfl rfl (bE hlk) ?_)
       |(at_mapUpdate;refine cO _ rfl _ _ _ _ rfl _ _ _ _ rfl rfl rfl (bE hup) ?_)
       |go_in)
      go_roundg (r.body.length- (q+1))
      case measure=>omega
      case rel=>exact⟨q+1,by omega,by go_num,(m3,true),rfl,E4,hM3,hT3,hs3,bE hz3,Pj⟩
     ·have E3:Hid (bC r.head.name y a=y):=by show _=_;unfold bC;rw[if_neg hlf]
      have E4:Hid (iV x r=(r.body.drop (q+1)).foldl (bC r.head.name) y):=by show _=_;rw[HE2.out,hst,E3.out]
      have Pj:Hid (∀s,numOf y.1 s≤c+5*j+(q+1)):=by intro s;have:=HCy.out s;omega
      have hlz:¬((numOf y.1 r.head.name:Nat):Int)<((behind y.1 a:Nat):Int):=by omega
      clear hcl ha htv hst HE2 HMy HTy HCy HLE E3 hlf;generalize behind y.1 a=be at*;generalize numOf y.1 r.head.name=nu at*;generalize bs a.name=na at*;generalize a.no=an at*
      go_wp2_with (first
       |(go_at_call 192;refine HBh.out.mono ?_;rintro e w2 ⟨rfl,hlk,hM2,hT2,hs2,hz2⟩;replace hlk:=hide hlk)
       |(at_lookup;refine eX _ rfl _ _ _ _ rfl _ _ _ rfl rfl (bE hlk) ?_)
       |go_in)
      go_roundg (r.body.length- (q+1))
      case measure=>omega
      case rel=>exact⟨q+1,by omega,by go_num,y,rfl,E4,hM2.out.mono (by omega),hT2,hs2,hz2,Pj⟩
    ·have E3:Hid (iV x r=y):=by show _=_;rw[HE2.out,List.drop_eq_nil_of_le (by omega)];rfl
     have E4:Hid (liftAll (m,false) p=liftAll y (p.drop (j+1))):=by show _=_;rw[HE.out,HS.out,E3.out]
     go_wp2
     go_roundg (p.length- (j+1))
     case measure=>omega
     case rel=>exact⟨j+1,by omega,by go_num,y,rfl,E4,HMy.out.mono (by omega),HTy,fun s=>by have:=HCy.out s;omega⟩
  ·have E2:Hid (liftAll (m,false) p=x):=by show _=_;rw[HE.out,List.drop_eq_nil_of_le (by omega)];rfl
   go_wp2;go_ret;exact⟨by rw[E2.out];rfl,by rw[E2.out];exact HM.out.mono (by omega),HT.out,by rw[E2.out];intro s;have:=HC.out s;omega⟩
end Go.Proofs.YtafmbokfkbccaaaGreatDoor
namespace Go.Proofs.YtafmbokfkbccaaaGreatDoor
open Go.RowKit Go.Sort Go.Maps
def r9:Kind Nat where
 size:=1
 is:=fun _ _ c n=>c=[.int .i64 (n:Int)]
 len:=fun h=>by subst h;rfl
 one:=fun h u hu=>by subst h;simp at hu;subst hu;rfl
 kept:=fun h _ _=>h
 mono:=fun h _=>h
theorem KQ:∃i,Tryz.prog.info? 3=some i∧i.zero=some (.int .i64 0)∧i.size=1∧i.bytes=8:=⟨Tryz.t3,by kernel_rfl,by kernel_rfl,by kernel_rfl,by kernel_rfl⟩
theorem Dk {lo:Nat} {w:World} {v:Value} {l:List Nat} (h:r9.own 3 lo w v l) {x:Nat} (hl:l.length+1≤1099511627776) (hlo:lo≤w.heap.size):
  ∃v' w',(Builtin.append_ #[39,39] 39 #[v,.slice (some ⟨w.heap.size,0,none⟩) 1 1]).run Tryz.prog (w.alloc (.cells #[.int .i64 (x:Int)] 3))=.ok v' w'∧r9.own 3 lo w' v' (l++[x])∧(w.alloc (.cells #[.int .i64 (x:Int)] 3)).grownBy w' v.ownBlock:=by
 obtain⟨i,i1,i2,i3,i4⟩:=KQ;exact Kind.jP h Tryz.underlying39 i1 i2 i3 i4 rfl (by decide) (by decide) (c:=[.int .i64 (x:Int)]) rfl hl hlo
theorem FJ {p:List aA} {j:Nat} {r:aA} (h:p[j]?=some r) (m:fq):each m (p.take (j+1))=each m (p.take j)++[numOf m r.head.name]:=by
 rw[List.take_add_one,h];simp[each]
set_option maxRecDepth 100000 in
set_option maxHeartbeats 2000000 in
theorem Pk (b n:Nat) (m:fq) (p:List aA) (v:Value) (w:World) (h:eY w b n m) (hv:eD.sl bJ w v p) (hf:∀r∈p,IC r) (hp:p.length≤16):
  Calls Tryz.prog 119 #[.map (some b),v] w fun e w'=>∃u,e=.returned u∧r9.own 3 w.heap.size w' u (each m p)∧Below w.heap.size w w':=by
 obtain⟨sa,cap,rfl⟩:=Kind.slice hv;have HV:=hide hv;have HF:=hide hf;have H0:=hide h;have hbw:=h.lt;clear hv hf h
 go_enter Tryz.func119,Tryz.ntmps119
 go_wp2
 go_loopg [5,10] p.length (fun k o i wr=>∃j:Nat,j+k=p.length∧i=.int .i64 j∧Hid (r9.own 3 w.heap.size wr o (each m (p.take j)))∧Hid (Below w.heap.size w wr))
 case atStart=>exact⟨0,by omega,rfl,r9.jg _ _ _,Below.refl _ _⟩
 case round=>
  obtain⟨j,hj,rfl,HO,HB⟩:=hrel;obtain⟨ao,co,rfl⟩:=Kind.dI HO.out;have hwr:=HB.out.size
  by_cases hlt:j<p.length
  ·obtain⟨r,hr⟩:∃x,p[j]?=some x:=⟨_,List.getElem?_eq_getElem hlt⟩;obtain⟨b1,o1,_,rfl,hb1,⟨sv,su,rfl,hsv,hsu⟩,hcl⟩:=Kind.fP HV.out hr;have d0:wr.cell? ⟨b1,o1+j*4,none⟩=some (.bool r.head.no):=by rw[HB.out.cell hb1];exact hcl 0 _ rfl
   have d1:wr.cell? ⟨b1,o1+j*4+1,none⟩=some (.string (bs r.head.name)):=by rw[HB.out.cell hb1];exact hcl 1 _ rfl
   have d2:wr.cell? ⟨b1,o1+j*4+2,none⟩=some sv:=by rw[HB.out.cell hb1];exact hcl 2 _ rfl
   have d3:wr.cell? ⟨b1,o1+j*4+3,none⟩=some su:=by rw[HB.out.cell hb1];exact hcl 3 _ rfl
   have hbr:b1<wr.heap.size:=by omega
   have E:=hide (FJ hr m);have hlen:(each m (p.take j)).length=j:=by simp[each];omega
   have f1:=(HF.out r (List.mem_of_getElem? hr)).1;have hlk:=hide (ku.look (T:=193) ((H0.out.below HB.out).later ((Later.refl wr).alloc (.cells #[.bool r.head.no,.string (bs r.head.name),sv,su] 87))) Tryz.underlying9 Tryz.underlying3 Tryz.underlying193 (qF _) f1);have hOA:=Kind.dB HO.out ((Tn.refl b wr).alloc (.cells #[.bool r.head.no,.string (bs r.head.name),sv,su] 87)) hbw;obtain⟨v',w4,hrun,o4,g4⟩:=Dk hOA (x:=numOf m r.head.name) (by rw[hlen];omega) (by simp;omega);have HO4:Hid (r9.own 3 w.heap.size w4 v' (each m (p.take (j+1)))):=by show r9.own _ _ _ _ _;rw[E.out];exact o4
   have HB4:Hid (Below w.heap.size w w4):=by
    refine ak ((HB.out.alloc hwr _).alloc (by simp;omega) _) ⟨g4.os,g4.tape,g4.output,g4.size,fun k hk=>g4.block k (by simp;omega) (fun e=> ?_)⟩ (Nat.le_refl _);have:=(Kind.fu hOA e.symm).1;omega
   rw[hlen] at hrun;simp only[World.size_alloc] at hrun
   replace hrun:=hide hrun
   rw[hlen];obtain⟨a2,c2,rfl⟩:=Kind.slice hsv;obtain⟨a3,c3,rfl⟩:=Kind.slice hsu;clear hcl hr hsv hsu hOA o4 g4 HO HB E f1;clear hlen;generalize numOf m r.head.name=nu at*;generalize bs r.head.name=nm at*;generalize r.head.no=no at*
   go_wp2_with (first
    |(at_lookup;refine eX _ rfl _ _ _ _ rfl _ _ _ rfl rfl (bE hlk) ?_)
    |(at_builtin;refine wpList_append_run rfl (.tmp 14) (.tmp 20) 39 rfl _ _ _ _ rfl rfl (bE hrun) ?_)
    |go_in)
   go_roundg (p.length- (j+1))
   case measure=>omega
   case rel=>exact⟨j+1,by omega,by go_num,HO4,HB4⟩
  ·have e:j=p.length:=by omega
   subst e;have HO2:Hid (r9.own 3 w.heap.size wr (.slice ao (each m (p.take p.length)).length co) (each m p)):=by have:=HO.out;rw[List.take_length] at this⊢;exact this
   go_wp2;go_ret;exact⟨_,rfl,HO2.out,HB.out⟩
theorem yK (l:List aA):∀(m:fq) (i:Nat),(iO m i l).1=0→∀r∈l,IC r:=by
 induction l with
 |nil=>intro m i _ r hr;cases hr
 |cons q l ih=>
  intro m i h r hr;unfold iO at h;split at h
  ·rename_i h0;rcases List.mem_cons.1 hr with rfl|hr
   ·unfold aU at h0;split at h0
    ·rename_i h1;split at h0
     ·cases h0
     ·split at h0
      ·rename_i h2;obtain⟨k1,k2⟩:=jH h2;exact⟨gJ (bL h1).1,k1,fun a ha=>gJ (bL (k2 a ha)).1⟩
      ·rename_i h2;exact absurd h0 h2
    ·rename_i h1;exact absurd h0 h1
   ·exact ih _ _ h r hr
  ·rename_i h0;exact absurd h h0
theorem Al {p:List aA} (h:(gG p).1=0):p.length≤16∧∀r∈p,IC r:=by
 unfold gG at h;split at h
 ·cases h
 ·exact⟨by omega,yK p _ _ h⟩
theorem yL {p:List aA} {j:Nat} {r:aA} (h:p[j]?=some r) (m:fq):jC m (p.take (j+1))=(jC m (p.take j)).put r.head.name 0:=by
 rw[List.take_add_one,h];simp[jC,List.foldl_append]
theorem Kind.uq {α:Type} {K:Kind α} {lo R i:Nat} {w:World} {v:Value} {l:List α} (h:K.sl (From lo) w v l) (hR:R<lo) (x:Value):K.sl (From lo) (w.setCell ⟨R,i,none⟩ x) v l:=
 Kind.aT h (by rw[size_setCell];exact Nat.le_refl _) fun k _ hB=>heap_setCell_other _ _ _ (by have:lo≤k:=hB;show k≠R;omega)
set_option maxRecDepth 100000 in
set_option maxHeartbeats 4000000 in
theorem FK (p:List aA) (v:Value) (w:World) (hv:eD.sl bJ w v p):
  Calls Tryz.prog 65 #[v] w fun e w'=>∃u,e=.returned (.tuple #[u,.agg #[.int .i64 (aS p).2.1,.int .i64 ((aS p).2.2:Nat)]])∧r9.sl (From w.heap.size) w' u (aS p).1∧Below w.heap.size w w':=by
 obtain⟨sa,cap,rfl⟩:=Kind.slice hv;have HV:=hide hv;have hl0:=hv.1.1;have HW:Hid (Calls Tryz.prog 117 #[.slice sa p.length cap] (w.alloc (.cells #[.int .i64 0,.int .i64 0] 75)) fun e w2=>e=.returned (.agg #[.int .i64 (gG p).1,.int .i64 ((gG p).2:Nat)])∧Hid (Below w.heap.size w w2)∧w2.heap[w.heap.size]?=some (.cells #[.int .i64 0,.int .i64 0] 75 (0,0))∧w.heap.size<w2.heap.size):=
  (M5 p _ _ (Kind.aR hv ((Later.refl w).alloc _).below)).mono fun e w2 ⟨he,hb⟩=>⟨he,ak ((Later.refl w).alloc _).below hb (by simp),by rw[hb.block w.heap.size (by simp),heap_alloc_new],by have:=hb.size;simp at this;omega⟩
 clear hv;have hmm:= @run_makeMap Tryz.prog;generalize hwp:gG p=wp at*;obtain⟨ex,ea⟩:=wp;dsimp only at*
 by_cases h0:ex=0
 ·subst h0;obtain⟨QK,M6⟩:=Al (p:=p) (by rw[hwp]);have HFi:=hide M6;have F:Hid (aS p=match gK p (p.length+1) (start p) with|some m=>(each m p,0,0)|none=>([],10,0)):=by
   show _=_;unfold aS;rw[hwp,if_pos rfl];cases gK p (p.length+1) (start p) <;> rfl
  clear hwp M6
  go_enter Tryz.func65,Tryz.ntmps65
  go_wp2_with (go_at_call 117;refine HW.out.mono ?_;rintro e w2 ⟨rfl,hB2,hR2,hs2⟩;replace hR2:=hide hR2)
  have hwz:=hB2.out.size
  go_loopg [17] p.length (fun k i wr=>∃j:Nat,j+k=p.length∧i=.int .i64 j∧Hid (eY wr (w2.heap.size+1) j (jC (fun _=>none) (p.take j)))∧Hid (Below w.heap.size w wr)∧Hid (wr.heap[w.heap.size]?=some (.cells #[.int .i64 0,.int .i64 0] 75 (0,0)))∧w2.heap.size+2≤wr.heap.size)
  case atStart=>
   refine⟨0,by omega,rfl,?_,?_,?_,by simp⟩
   ·have:=ku.made Tryz.prog 9 3 (w2.alloc (.cells #[.int .i64 0,.int .i64 (ea:Int)] 75));rw[World.size_alloc] at this;exact this
   ·exact(hB2.out.alloc hwz _).alloc (by simp;omega) _
   ·show _=_;rw[Below.heap_alloc _ _ _ (by simp;omega),Below.heap_alloc _ _ _ hs2];exact bE hR2
  case round=>
   obtain⟨j,hj,rfl,HM,HB,HR,hsz⟩:=hrel;clear hB2 hR2
   by_cases hlt:j<p.length
   ·obtain⟨r,hr⟩:∃x,p[j]?=some x:=⟨_,List.getElem?_eq_getElem hlt⟩;obtain⟨b1,o1,_,rfl,hb1,⟨sv,su,rfl,hsv,hsu⟩,hcl⟩:=Kind.fP HV.out hr;have d0:wr.cell? ⟨b1,o1+j*4,none⟩=some (.bool r.head.no):=by rw[HB.out.cell hb1];exact hcl 0 _ rfl
    have d1:wr.cell? ⟨b1,o1+j*4+1,none⟩=some (.string (bs r.head.name)):=by rw[HB.out.cell hb1];exact hcl 1 _ rfl
    have d2:wr.cell? ⟨b1,o1+j*4+2,none⟩=some sv:=by rw[HB.out.cell hb1];exact hcl 2 _ rfl
    have d3:wr.cell? ⟨b1,o1+j*4+3,none⟩=some su:=by rw[HB.out.cell hb1];exact hcl 3 _ rfl
    have hbr:b1<wr.heap.size:=by omega
    have E:=hide (yL hr (fun _=>none));have f1:=(HFi.out r (List.mem_of_getElem? hr)).1;obtain⟨w4,hup,hM4,hg⟩:=ku.store (T:=193) (HM.out.later ((Later.refl wr).alloc (.cells #[.bool r.head.no,.string (bs r.head.name),sv,su] 87))) Tryz.underlying9 Tryz.underlying3 Tryz.underlying193 (by simp[maxLen];omega) f1 (x:=0) (yG (by omega));have hgs:=hg.size;simp only[World.size_alloc] at hgs;have HM4:Hid (eY w4 (w2.heap.size+1) (j+1) (jC (fun _=>none) (p.take (j+1)))):=by show eY _ _ _ _;rw[E.out];exact hM4
    have HB4:Hid (Below w.heap.size w w4):=ak (HB.out.alloc HB.out.size _) ((Tn.kZ hg).below (n:=w.heap.size) (by omega) (by simp;omega)) (Nat.le_refl _);have HR4:Hid (w4.heap[w.heap.size]?=some (.cells #[.int .i64 0,.int .i64 0] 75 (0,0))):=by
     show _=_;rw[(Tn.kZ hg).block w.heap.size (by simp;omega) (by omega),Below.heap_alloc _ _ _ (by omega)];exact HR.out
    have hs4:w2.heap.size+2≤w4.heap.size:=by omega
    have Ta:Hid ((Instr.mapUpdate 193 (.map (some (w2.heap.size+1))) (.string (bs r.head.name)) (.int .i64 0)).run Tryz.prog (wr.alloc (.cells #[.bool r.head.no,.string (bs r.head.name),sv,su] 87))=.ok () w4):=hup;obtain⟨a2,c2,rfl⟩:=Kind.slice hsv;obtain⟨a3,c3,rfl⟩:=Kind.slice hsu;clear hcl hr hsv hsu hM4 hg hup HM HB HR E f1 hgs;generalize bs r.head.name=nm at*;generalize r.head.no=no at*
    go_wp2_with (first
     |(at_mapUpdate;refine cO _ rfl _ _ _ _ rfl _ _ _ _ rfl rfl rfl (bE Ta) ?_)
     |go_in)
    go_roundg (p.length- (j+1))
    case measure=>omega
    case rel=>exact⟨j+1,by omega,by go_num,HM4,HB4,HR4,hs4⟩
   ·have e:j=p.length:=by omega
    subst e;have HM2:Hid (eY wr (w2.heap.size+1) (16+80*0) (start p)):=by have:=HM.out;rw[List.take_length] at this;exact this.mono (by omega)
    have HN2:Hid (∀s,numOf (start p) s≤80*0):=fun s=>by rw[sV];exact Nat.zero_le _
    clear HM;go_wp2
    go_loopg [29] (p.length+1) (fun k i wr2=>∃t:Nat,t+k=p.length+1∧i=.int .i64 t∧∃m,Hid (gK p (p.length+1) (start p)=gK p k m)∧Hid (eY wr2 (w2.heap.size+1) (16+80*t) m)∧Hid (∀s,numOf m s≤80*t)∧Hid (Below w.heap.size w wr2)∧Hid (wr2.heap[w.heap.size]?=some (.cells #[.int .i64 0,.int .i64 0] 75 (0,0)))∧w2.heap.size+2≤wr2.heap.size)
    case atStart=>exact⟨0,by omega,rfl,start p,(rfl:_=_),HM2,HN2,HB,HR,hsz⟩
    case round=>
     obtain⟨t,ht,rfl,m,HE,HMt,HNt,HBt,HRt,hst⟩:=hrel;clear HM2 HN2 HB HR hsz
     by_cases hlt:t<p.length+1
     ·obtain⟨k,rfl⟩:∃k',gk=k'+1:=⟨p.length-t,by omega⟩;have HL:Hid (Calls Tryz.prog 118 #[.map (some (w2.heap.size+1)),.slice sa p.length cap] wr fun e w5=>e=.returned (.bool (liftAll (m,false) p).2)∧Hid (eY w5 (w2.heap.size+1) (16+80*(t+1)) (liftAll (m,false) p).1)∧Hid (∀s,numOf (liftAll (m,false) p).1 s≤80*(t+1))∧Hid (Below w.heap.size w w5)∧Hid (w5.heap[w.heap.size]?=some (.cells #[.int .i64 0,.int .i64 0] 75 (0,0)))∧w2.heap.size+2≤w5.heap.size):=
       (KO _ _ (80*t) m p _ wr HMt.out (Kind.oq HV.out HBt.out (by omega)) HFi.out QK HNt.out (by omega) (by omega)).mono fun e w5 ⟨he,h1,h2,h3⟩=>
        ⟨he,h1.mono (by omega),fun s=>by have:=h3 s;omega,ak HBt.out (h2.below (n:=w.heap.size) (by omega) (by omega)) (Nat.le_refl _),by show _=_;rw[h2.block w.heap.size (by omega) (by omega)];exact HRt.out,by have:=h2.size;omega⟩
      have hgo:gK p (k+1) m=if(liftAll (m,false) p).2 then gK p k (liftAll (m,false) p).1 else some (liftAll (m,false) p).1:=rfl;clear HMt HNt HBt HRt;generalize liftAll (m,false) p=la at*;obtain⟨m2,lb⟩:=la;dsimp only at*;cases lb
      ·have F2:Hid (aS p=(each m2 p,0,0)):=by show _=_;rw[F.out,HE.out,hgo];rfl
       have HEa:Hid (∀w5,Hid (eY w5 (w2.heap.size+1) (16+80*(t+1)) m2)→Hid (Below w.heap.size w w5)→Hid (w5.heap[w.heap.size]?=some (.cells #[.int .i64 0,.int .i64 0] 75 (0,0)))→w2.heap.size+2≤w5.heap.size→Calls Tryz.prog 119 #[.map (some (w2.heap.size+1)),.slice sa p.length cap] w5 fun e w6=>∃u,e=.returned u∧Hid (r9.sl (From (w.heap.size+1)) w6 u (each m2 p))∧Hid (Below w.heap.size w w6)∧w6.heap[w.heap.size]?=some (.cells #[.int .i64 0,.int .i64 0] 75 (0,0))):=fun w5 h1 h2 h3 h4=>
        (Pk _ _ m2 p _ w5 h1.out (Kind.aR HV.out h2.out) HFi.out QK).mono fun e w6 ⟨u,he,ho,hb⟩=>
         ⟨u,he,Kind.aW (Kind.gW ho (by simp[each];omega)) fun k _ hk=>by have:w5.heap.size≤k:=hk;show w.heap.size+1≤k;omega,ak h2.out hb h2.out.size,by rw[hb.block w.heap.size (by omega)];exact h3.out⟩
       clear hgo HE F
       go_wp2_with (first
        |(go_at_call 118;refine HL.out.mono ?_;rintro e w5 ⟨rfl,hM5,hN5,hB5,hR5,hs5⟩)
        |(go_at_call 119;refine(HEa.out w5 hM5 hB5 hR5 hs5).mono ?_;rintro e w6 ⟨u,rfl,hU6,hB6,hR6⟩;have q0:w6.cell? ⟨w.heap.size,0,none⟩=some (.int .i64 0):=(by rw[cell_of_row _ _ _ _ _ _ hR6];rfl);have q1:w6.cell? ⟨w.heap.size,1,none⟩=some (.int .i64 0):=(by rw[cell_of_row _ _ _ _ _ _ hR6];rfl);have p0:w6.frozen? ⟨w.heap.size,0,none⟩=false:=bK 0 hR6;have p1:w6.frozen? ⟨w.heap.size,1,none⟩=false:=bK 1 hR6;replace hR6:=hide hR6))
       obtain⟨r0,r1⟩:=iL (bE hR6) (.int .i64 0) (.int .i64 0);refine bodyPost_ret (v:=.tuple #[u,.agg #[.int .i64 0,.int .i64 0]]) (by simp[results,Tryz.results65,go_sem,r0,r1]) rfl ⟨u,by rw[F2.out];rfl,?_,?_⟩
       ·rw[F2.out];exact Kind.aW (Kind.uq (Kind.uq hU6.out (Nat.lt_succ_self _) _) (Nat.lt_succ_self _) _) fun k _ hk=>by have:w.heap.size+1≤k:=hk;show w.heap.size≤k;omega
       ·exact(hB6.out.setCell (Nat.le_refl _) _).setCell (Nat.le_refl _) _
      ·have E2:Hid (gK p (p.length+1) (start p)=gK p k m2):=by show _=_;rw[HE.out,hgo];rfl
       clear hgo HE
       go_wp2_with (go_at_call 118;refine HL.out.mono ?_;rintro e w5 ⟨rfl,hM5,hN5,hB5,hR5,hs5⟩)
       go_roundg k
       case measure=>omega
       case rel=>exact⟨t+1,by omega,by go_num,m2,E2,hM5,hN5,hB5,hR5,hs5⟩
     ·obtain rfl:gk=0:=by omega
      have F2:Hid (aS p=([],10,0)):=by show _=_;rw[F.out,HE.out];rfl
      have hR6:=HRt.out;have q0:wr.cell? ⟨w.heap.size,0,none⟩=some (.int .i64 0):=(by rw[cell_of_row _ _ _ _ _ _ hR6];rfl);have q1:wr.cell? ⟨w.heap.size,1,none⟩=some (.int .i64 0):=(by rw[cell_of_row _ _ _ _ _ _ hR6];rfl);have p0:wr.frozen? ⟨w.heap.size,0,none⟩=false:=bK 0 hR6;have p1:wr.frozen? ⟨w.heap.size,1,none⟩=false:=bK 1 hR6;clear hR6;go_wp2;obtain⟨r0,r1⟩:=iL HRt.out (.int .i64 10) (.int .i64 0);refine bodyPost_ret (v:=.tuple #[.slice none 0 0,.agg #[.int .i64 10,.int .i64 0]]) (by simp[results,Tryz.results65,go_sem,r0,r1]) rfl ⟨.slice none 0 0,by rw[F2.out];rfl,by rw[F2.out];exact r9.gF _ _ _ _,?_⟩;exact(HBt.out.setCell (Nat.le_refl _) _).setCell (Nat.le_refl _) _
 ·have F:Hid (aS p=([],ex,ea)):=by show _=_;unfold aS;rw[hwp,if_neg h0]
  have hq:(ex != 0)=true:=by simpa using h0
  clear h0 hwp HV
  go_enter Tryz.func65,Tryz.ntmps65
  go_wp2_with (go_at_call 117;refine HW.out.mono ?_;rintro e w2 ⟨rfl,hB2,hR2,hs2⟩;have q0:w2.cell? ⟨w.heap.size,0,none⟩=some (.int .i64 0):=(by rw[cell_of_row _ _ _ _ _ _ hR2];rfl);have q1:w2.cell? ⟨w.heap.size,1,none⟩=some (.int .i64 0):=(by rw[cell_of_row _ _ _ _ _ _ hR2];rfl);have p0:w2.frozen? ⟨w.heap.size,0,none⟩=false:=bK 0 hR2;have p1:w2.frozen? ⟨w.heap.size,1,none⟩=false:=bK 1 hR2;replace hR2:=hide hR2)
  go_region
  go_wp2;obtain⟨r0,r1⟩:=iL (bE hR2) (.int .i64 ex) (.int .i64 (ea:Int));have hL:=((Later.refl ((w2.setCell ⟨w.heap.size,0,none⟩ (.int .i64 ex)).setCell ⟨w.heap.size,1,none⟩ (.int .i64 (ea:Int)))).alloc (.cells #[.int .i64 ex,.int .i64 (ea:Int)] 75)).drew;rw[←hL.cell (p:=⟨w.heap.size,0,none⟩) (by simp only[size_setCell];exact hs2)] at r0;rw[←hL.cell (p:=⟨w.heap.size,1,none⟩) (by simp only[size_setCell];exact hs2)] at r1;refine bodyPost_ret (v:=.tuple #[.slice none 0 0,.agg #[.int .i64 ex,.int .i64 (ea:Int)]]) (by simp[results,Tryz.results65,go_sem,r0,r1]) rfl ⟨.slice none 0 0,by rw[F.out],by rw[F.out];exact r9.gF _ _ _ _,?_⟩;exact ak ((hB2.out.setCell (Nat.le_refl _) _).setCell (Nat.le_refl _) _) hL.below (by simp only[size_setCell];exact Nat.le_of_lt hs2)
end Go.Proofs.YtafmbokfkbccaaaGreatDoor
