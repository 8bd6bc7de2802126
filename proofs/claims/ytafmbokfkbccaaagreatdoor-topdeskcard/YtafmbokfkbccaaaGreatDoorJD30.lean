import Derived.Test.YtafmbokfkbccaaaGreatDoorJD29
namespace Go.Proofs.YtafmbokfkbccaaaGreatDoor
open Go.RowKit Go.Sort
def DoneV (p:Nat) (B:Nat→Prop) (w w':World) (v:Value) (x:DeskD×AnsD):Prop:=AnsV (From w.heap.size) w' v x.2∧(∃tv rv kv nv sv,DeskW p (fun k=>B k∨w.heap.size≤k) w' x.1 tv rv kv nv sv)∧Tn p w w'
theorem DoneV.lay {p R:Nat} {B:Nat→Prop} {w w1 w2:World} {v:Value} {x:DeskD×AnsD} (h1:AnsV (fun k=>w.heap.size≤k∧k≠R) w1 v x.2) {tv rv kv nv sv:Value} (h2:DeskW p (fun k=>(B k∨w.heap.size≤k)∧k≠R) w1 x.1 tv rv kv nv sv) (h3:Tn p w w1) (hT:Tn R w1 w2) (hR:w.heap.size≤R) (hp:p<w.heap.size):DoneV p B w w2 v x:=by
 obtain⟨bv,sv',kv',rfl,a1,a2,a3⟩:=h1
 refine⟨⟨bv,sv',kv',rfl,?_,?_,?_⟩,⟨tv,rv,kv,nv,sv,(h2.kept hT.size (hT.block p h2.lt (by omega)) fun k hk hB=>hT.block k hk hB.2).mono fun _ _ hB=>hB.1⟩,?_⟩
 ·exact Kind.sl_mono (Kind.sl_kept a1 hT.size fun k hk hB=>hT.block k hk hB.2) fun _ _ hB=>hB.1
 ·exact Kind.sl_mono (Kind.sl_kept a2 hT.size fun k hk hB=>hT.block k hk hB.2) fun _ _ hB=>hB.1
 ·exact Kind.sl_mono (Kind.sl_kept a3 hT.size fun k hk hB=>hT.block k hk hB.2) fun _ _ hB=>hB.1
 ·exact⟨hT.os.trans h3.os,hT.tape.trans h3.tape,hT.output.trans h3.output,Nat.le_trans h3.size hT.size,fun k hk hkp=>(hT.block k (by have:=h3.size;omega) (by omega)).trans (h3.block k hk hkp)⟩
theorem zrow (w:World):(w.alloc (.cells #[.int .i64 0,.int .i64 0,.int .i64 0,.slice none 0 0,.string ⟨#[]⟩,.slice none 0 0,.int .i64 0,.slice none 0 0] 64)).heap[w.heap.size]?=some (.cells #[.int .i64 0,.int .i64 0,.int .i64 0,.slice none 0 0,.string ⟨#[]⟩,.slice none 0 0,.int .i64 0,.slice none 0 0] 64 (0,0)):=heap_alloc_new w _
set_option maxRecDepth 100000 in
set_option maxHeartbeats 2000000 in
theorem runsC (p:Nat) (B:Nat→Prop) (d:DeskD) (er:Int) (r:RunD) (tv rv kv nv sv:Value) (ka na:Option Addr) (kc nc:Nat) (w:World) (hD:DeskW p B w d tv rv kv nv sv) (hB:¬B p) (hr:er=0→FactsB B w (.slice ka r.known.length kc) r.known∧FactsB B w (.slice na r.fresh.length nc) r.fresh):
  Calls Tryz.prog 202 #[.pointer (some ⟨p,0,none⟩),.agg #[.slice ka r.known.length kc,.slice na r.fresh.length nc,.int .i64 r.level,.int .i64 r.rounds,.bool r.done],.int .i64 er] w fun e w'=>∃v,e=.returned v∧DoneV p B w w' v (runsP d (er,r)):=by
 have hp:=hD.lt
 obtain⟨w1,hw1⟩:∃w1,w1=w.alloc (.cells #[.slice ka r.known.length kc,.slice na r.fresh.length nc,.int .i64 r.level,.int .i64 r.rounds,.bool r.done] 47):=⟨_,rfl⟩
 obtain⟨w2,hw2⟩:∃w2,w2=w1.alloc (.cells #[.int .i64 0,.int .i64 0,.int .i64 0,.slice none 0 0,.string ⟨#[]⟩,.slice none 0 0,.int .i64 0,.slice none 0 0] 64):=⟨_,rfl⟩
 have hz1:w1.heap.size=w.heap.size+1:=by rw[hw1];simp
 have hz2:w2.heap.size=w.heap.size+2:=by rw[hw2];simp;omega
 have hL1:Later w w1:=by rw[hw1];exact(Later.refl w).alloc _
 have hL2:Later w1 w2:=by rw[hw2];exact(Later.refl w1).alloc _
 have hb2:w2.heap[w.heap.size]?=some (.cells #[.slice ka r.known.length kc,.slice na r.fresh.length nc,.int .i64 r.level,.int .i64 r.rounds,.bool r.done] 47 (0,0)):=(hL2.block (by omega)).trans (by rw[hw1];exact heap_alloc_new w _)
 have hr2:w2.heap[w.heap.size+1]?=some (.cells #[.int .i64 0,.int .i64 0,.int .i64 0,.slice none 0 0,.string ⟨#[]⟩,.slice none 0 0,.int .i64 0,.slice none 0 0] 64 (0,0)):=by rw[hw2,←hz1];exact zrow w1
 have HD2:Hid (DeskW p (fun k=>B k∧k<w.heap.size) w2 d tv rv kv nv sv):=(hD.mono fun k hk hb=>⟨hb,hk⟩).below (hL1.trans hL2).below
 have HL2:=hide (hL1.trans hL2)
 have HB2:=hide hb2
 have HR2:=hide hr2
 have HW1:=hide hw1
 have HW2:=hide hw2
 have HRr:=hide hr
 have HB:=hide hB
 clear hw1 hw2 hL1 hL2 hb2 hr2 hD hr hB
 by_cases h0:er=0
 ·subst h0
  obtain⟨hk,hn⟩:=HRr.out rfl
  have hkl:=hk.1
  have HK:Hid (FactsB (fun k=>B k∧k<w.heap.size) w2 _ r.known):=(hk.mono fun k hk hb=>⟨hb,hk⟩).below HL2.out.below
  have HN:Hid (FactsB (fun k=>B k∧k<w.heap.size) w2 _ r.fresh):=(hn.mono fun k hk hb=>⟨hb,hk⟩).below HL2.out.below
  have HX:Hid (runsP d (0,r)=({d with running:=true,run:=r},ansN r.known.length)):=by show _=_;unfold runsP;rw[if_neg (by simp)]
  clear hk hn HRr
  have HSb:Hid (∀w':World,w'.heap[w.heap.size]?=w2.heap[w.heap.size]?→w'.heap[w.heap.size]?=some (.cells #[.slice ka r.known.length kc,.slice na r.fresh.length nc,.int .i64 r.level,.int .i64 r.rounds,.bool r.done] 47 (0,0))):=fun w' h=>h.trans HB2.out
  go_enter Tryz.func202,Tryz.ntmps202
  go_wp2_with (first|(rw[←HW1.out])|(rw[←HW2.out])|fail)
  refine wp_region_held_drew (S:=fun w'=>w'.heap[w.heap.size]?=w2.heap[w.heap.size]?) (by kernel_rfl) rfl (fun hHeld=> ?_)
  refine take_yes (i:=0) (d:=some 11) (v:= ?_) rfl rfl hHeld ?_ ?_;rotate_left;focus intro w hSw;(try dsimp only at hSw);obtain⟨q0,q1,q2,q3,q4,_,_⟩:=row5 (HSb.out _ hSw);go_simp;try with_reducible rfl
  simp only[aput,aset,aze,asu]
  refine take_yes (i:=1) (d:=some 12) (v:= ?_) rfl rfl hHeld ?_ ?_;rotate_left;focus intro w hSw;(try dsimp only at hSw);obtain⟨q0,q1,q2,q3,q4,_,_⟩:=row5 (HSb.out _ hSw);go_simp;try with_reducible rfl
  simp only[aput,aset,aze,asu]
  refine take_yes (i:=2) (d:=some 13) (v:= ?_) rfl rfl hHeld ?_ ?_;rotate_left;focus intro w hSw;(try dsimp only at hSw);obtain⟨q0,q1,q2,q3,q4,_,_⟩:=row5 (HSb.out _ hSw);go_simp;try with_reducible rfl
  simp only[aput,aset,aze,asu]
  refine take_yes (i:=3) (d:=some 14) (v:= ?_) rfl rfl hHeld ?_ ?_;rotate_left;focus intro w hSw;(try dsimp only at hSw);obtain⟨q0,q1,q2,q3,q4,_,_⟩:=row5 (HSb.out _ hSw);go_simp;try with_reducible rfl
  simp only[aput,aset,aze,asu]
  refine take_yes (i:=4) (d:=some 15) (v:= ?_) rfl rfl hHeld ?_ ?_;rotate_left;focus intro w hSw;(try dsimp only at hSw);obtain⟨q0,q1,q2,q3,q4,_,_⟩:=row5 (HSb.out _ hSw);go_simp;try with_reducible rfl
  simp only[aput,aset,aze,asu]
  refine take_yes (i:=5) (d:=some 16) (v:= ?_) rfl rfl hHeld ?_ ?_;rotate_left;focus intro w hSw;(try dsimp only at hSw);obtain⟨q0,q1,q2,q3,q4,_,_⟩:=row5 (HSb.out _ hSw);go_simp;try with_reducible rfl
  simp only[aput,aset,aze,asu]
  refine wpAnyH_ready (rs:=[6]) (by kernel_rfl) (by simp) ?_
  refine AllReadyH.cons rfl (fun K' hK=> ?_) AllReadyH.nil
  obtain⟨⟨c0,c1,c2,c3,c4,c5,c6,c7,c8⟩,hfz,hlt⟩:=row9 HD2.out.row
  go_simp
  obtain⟨w3,hw3⟩:∃w3,w3=w2.setCell ⟨p,2,none⟩ (.bool true):=⟨_,rfl⟩
  have hT3:Tn p w2 w3:=by rw[hw3];exact(Tn.refl p w2).setCell (Or.inl rfl) _
  have hrow3:=set_row (j:=2) HD2.out.row (.bool true)
  rw[←hw3] at hrow3⊢
  clear hw3
  refine hK.out _ _ (hT3.block _ (by omega) (by omega)) (fun hHeld=> ?_)
  clear hK K' c0 c1 c2 c3 c4 c5 c6 c7 c8 hfz
  refine take_yes (i:=7) (d:=some 17) (v:= ?_) rfl rfl hHeld ?_ ?_;rotate_left;focus intro w hSw;(try dsimp only at hSw);go_simp;try with_reducible rfl
  simp only[aput,aset,aze,asu]
  refine take_yes (i:=8) (d:=some 18) (v:= ?_) rfl rfl hHeld ?_ ?_;rotate_left;focus intro w hSw;(try dsimp only at hSw);go_simp;try with_reducible rfl
  simp only[aput,aset,aze,asu]
  refine take_yes (i:=9) (d:=some 19) (v:= ?_) rfl rfl hHeld ?_ ?_;rotate_left;focus intro w hSw;(try dsimp only at hSw);go_simp;try with_reducible rfl
  simp only[aput,aset,aze,asu]
  refine wpAnyH_ready (rs:=[10]) (by kernel_rfl) (by simp) ?_
  refine AllReadyH.cons rfl (fun K' hK=> ?_) AllReadyH.nil
  obtain⟨⟨c0,c1,c2,c3,c4,c5,c6,c7,c8⟩,hfz,_⟩:=row9 hrow3
  go_simp
  obtain⟨w4,hw4⟩:∃w4,w4=((((w3.setCell ⟨p,3,none⟩ (.slice ka r.known.length kc)).setCell ⟨p,4,none⟩ (.slice na r.fresh.length nc)).setCell ⟨p,5,none⟩ (.int .i64 r.level)).setCell ⟨p,6,none⟩ (.int .i64 r.rounds)).setCell ⟨p,7,none⟩ (.bool r.done):=⟨_,rfl⟩
  have hT4:Tn p w3 w4:=by rw[hw4];exact(((((Tn.refl p w3).setCell (Or.inl rfl) _).setCell (Or.inl rfl) _).setCell (Or.inl rfl) _).setCell (Or.inl rfl) _).setCell (Or.inl rfl) _
  have hrow4:=set_row (j:=7) (set_row (j:=6) (set_row (j:=5) (set_row (j:=4) (set_row (j:=3) hrow3 (.slice ka r.known.length kc)) (.slice na r.fresh.length nc)) (.int .i64 r.level)) (.int .i64 r.rounds)) (.bool r.done)
  rw[←hw4] at hrow4⊢
  clear hw4
  have hT24:=hT3.trans hT4
  refine hK.out _ _ (hT24.block _ (by omega) (by omega)) (fun hHeld=> ?_)
  clear hK K' c0 c1 c2 c3 c4 c5 c6 c7 c8 hfz hHeld
  refine wpAnyH_done (by kernel_rfl) ?_ _
  obtain⟨w5,hw5⟩:∃w5,w5=w4.drew:=⟨_,rfl⟩
  rw[←hw5]
  have hT24:Tn p w2 w5:=by rw[hw5];exact hT24.drew
  have hrow5:=(show w5.heap[p]?=w4.heap[p]? by rw[hw5];rfl).trans hrow4
  clear hw5 hT4 hT3 hrow3 hrow4
  have hz4:=hT24.size
  have hb4:=(hT24.block _ (by omega) (by omega)).trans HB2.out
  have HRz:Hid (w5.heap[w.heap.size+1]?=_):=(hT24.block _ (by omega) (by omega)).trans HR2.out
  obtain⟨b0,b1,b2,b3,b4,_,_⟩:=row5 hb4
  obtain⟨⟨z0,z1,z2,z3,z4,z5,z6,z7⟩,zfz,zlt⟩:=row8 HRz.out
  have HT4:Hid (Tn p w w5):=(Tn.of_below HL2.out.below).trans hT24
  have HD4:Hid (DeskW p (fun k=>(B k∨w.heap.size≤k)∧k≠w.heap.size+1) w5 {d with running:=true,run:=r} tv rv (.slice ka r.known.length kc) (.slice na r.fresh.length nc) sv):=by
   have hkk:∀k,k<w2.heap.size→(B k∧k<w.heap.size)→w5.heap[k]?=w2.heap[k]?:=fun k hk hb=>hT24.block k hk (fun e=>HB.out (e▸hb.1))
   have hw:∀k,k<w5.heap.size→(B k∧k<w.heap.size)→(B k∨w.heap.size≤k)∧k≠w.heap.size+1:=fun k _ hb=>⟨Or.inl hb.1,by omega⟩
   have hs:=hT24.size
   have hD:=HD2.out
   exact⟨hrow5,(hD.told.kept hs hkk).mono hw,Kind.sl_mono (Kind.sl_kept hD.rules hs hkk) hw,(HK.out.kept hs hkk).mono hw,(HN.out.kept hs hkk).mono hw,Kind.sl_mono (Kind.sl_kept hD.saved hs hkk) hw⟩
  generalize r.known.length=kn at*
  clear HD2 HB2 HR2 HW1 HW2 HSb hT24 hb4 hrow5
  go_wp2
  have hrow:=put8_row HRz.out (.int .i64 0) (.int .i64 0) (.int .i64 kn) (.slice none 0 0) (.string ⟨#[]⟩) (.slice none 0 0) (.int .i64 0) (.slice none 0 0)
  obtain⟨⟨r0,r1,r2,r3,r4,r5,r6,r7⟩,_,_⟩:=row8 hrow
  unfold put8 at r0 r1 r2 r3 r4 r5 r6 r7
  have hTz:=put8_tn w5 (w.heap.size+1) (.int .i64 0) (.int .i64 0) (.int .i64 kn) (.slice none 0 0) (.string ⟨#[]⟩) (.slice none 0 0) (.int .i64 0) (.slice none 0 0)
  exact bodyPost_ret (v:=.agg #[.int .i64 0,.int .i64 0,.int .i64 kn,.slice none 0 0,.string ⟨#[]⟩,.slice none 0 0,.int .i64 0,.slice none 0 0]) (by simp[results,Tryz.results202,go_sem,r0,r1,r2,r3,r4,r5,r6,r7]) rfl ⟨_,rfl,by rw[HX.out];exact DoneV.lay (R:=w.heap.size+1) (AnsV.plain _ _ _ _ _) HD4.out HT4.out hTz (by omega) hp⟩
 ·have HX:Hid (runsP d (er,r)=(d,ansE er)):=by show _=_;unfold runsP;rw[if_pos h0]
  have hne:(er != 0)=true:=by simpa using h0
  have HC:=hide (refusedC er w2)
  unfold zansV at HC
  generalize r.known.length=kn at*
  generalize r.fresh.length=fn at*
  clear h0
  go_enter Tryz.func202,Tryz.ntmps202
  go_wp2_with (first|(rw[←HW1.out])|(rw[←HW2.out])|fail)
  refine HC.out.mono ?_
  rintro e w3 ⟨rfl,hB3⟩
  have HRz:Hid (w3.heap[w.heap.size+1]?=_):=(hB3.block _ (by omega)).trans HR2.out
  obtain⟨⟨z0,z1,z2,z3,z4,z5,z6,z7⟩,zfz,zlt⟩:=row8 HRz.out
  have HD3:=hide (HD2.out.below hB3)
  have HB3:=hide (below_trans HL2.out.below hB3 HL2.out.size)
  clear hB3 HC HW1 HW2
  go_wp2
  have hrow:=put8_row HRz.out (.int .i64 er) (.int .i64 0) (.int .i64 0) (.slice none 0 0) (.string ⟨#[]⟩) (.slice none 0 0) (.int .i64 0) (.slice none 0 0)
  obtain⟨⟨r0,r1,r2,r3,r4,r5,r6,r7⟩,_,_⟩:=row8 hrow
  unfold put8 at r0 r1 r2 r3 r4 r5 r6 r7
  have hTz:=put8_tn w3 (w.heap.size+1) (.int .i64 er) (.int .i64 0) (.int .i64 0) (.slice none 0 0) (.string ⟨#[]⟩) (.slice none 0 0) (.int .i64 0) (.slice none 0 0)
  exact bodyPost_ret (v:=.agg #[.int .i64 er,.int .i64 0,.int .i64 0,.slice none 0 0,.string ⟨#[]⟩,.slice none 0 0,.int .i64 0,.slice none 0 0]) (by simp[results,Tryz.results202,go_sem,r0,r1,r2,r3,r4,r5,r6,r7]) rfl ⟨_,rfl,by rw[HX.out];exact DoneV.lay (R:=w.heap.size+1) (AnsV.plain _ _ _ _ _) (HD3.out.mono fun k _ hb=>⟨Or.inl hb.1,by omega⟩) (Tn.of_below HB3.out) hTz (by omega) hp⟩
end Go.Proofs.YtafmbokfkbccaaaGreatDoor
namespace Go.Proofs.YtafmbokfkbccaaaGreatDoor
open Go.RowKit Go.Sort
theorem DeskW.past {p m:Nat} {B:Nat→Prop} {w w':World} {d:DeskD} {tv rv kv nv sv:Value} (h:DeskW p B w d tv rv kv nv sv) (k:Below w.heap.size w w'):DeskW p (fun k=>(B k∧k<w.heap.size)∨m<k) w' d tv rv kv nv sv:=
 ((h.mono (B':=fun k=>B k∧k<w.heap.size) fun _ hk hb=>⟨hb,hk⟩).below k).mono fun _ _ hb=>Or.inl hb
theorem OwnF.past {b m:Nat} {w:World} {v:Value} {l:List FactB} {B:Nat→Prop} (h:OwnF w b v l) (hl:l.length≤1000) (hm:m<b):FactsB (fun k=>B k∨m<k) w v l:=(h.factsB hl).mono fun _ _ hk=>Or.inr (Nat.lt_of_lt_of_le hm hk)
theorem DoneV.runs {p:Nat} {B:Nat→Prop} {w w2 w3:World} {v:Value} {x:DeskD×AnsD} (hB2:Below w.heap.size w w2) (hz:w.heap.size<w2.heap.size) (h:DoneV p (fun k=>(B k∧k<w.heap.size)∨w.heap.size<k) w2 w3 v x):
  AnsV (fun k=>w.heap.size≤k∧k≠w.heap.size) w3 v x.2∧(∃tv rv kv nv sv,DeskW p (fun k=>(B k∨w.heap.size≤k)∧k≠w.heap.size) w3 x.1 tv rv kv nv sv)∧Tn p w w3:=by
 obtain⟨⟨bv,sv,kv,rfl,a1,a2,a3⟩,⟨tv,rv,kv',nv,sv',hD⟩,hT⟩:=h
 have hm:∀k,k<w3.heap.size→w2.heap.size≤k→w.heap.size≤k∧k≠w.heap.size:=fun k _ hk=>⟨by omega,by omega⟩
 refine⟨⟨bv,sv,kv,rfl,Kind.sl_mono a1 hm,Kind.sl_mono a2 hm,Kind.sl_mono a3 hm⟩,⟨tv,rv,kv',nv,sv',hD.mono fun k _ hk=> ?_⟩,(Tn.of_below hB2).trans hT⟩
 rcases hk with(hk|hk)|hk
 ·exact⟨Or.inl hk.1,by omega⟩
 ·exact⟨Or.inr (by omega),by omega⟩
 ·exact⟨Or.inr (by omega),by omega⟩
theorem AnsV.slices {B:Nat→Prop} {w:World} {v:Value} {a:AnsD} (h:AnsV B w v a):∃ba bc sa sc ka kc,v=.agg #[.int .i64 a.err,.int .i64 a.place,.int .i64 a.n,.slice ba a.binds.length bc,.string a.prf.fact.1,.slice sa a.prf.fact.2.length sc,.int .i64 a.prf.rule,.slice ka a.prf.kids.length kc]:=by
 obtain⟨bv,sv,kv,rfl,a1,a2,a3⟩:=h
 obtain⟨ba,bc,rfl⟩:=Kind.slice a1
 obtain⟨sa,sc,rfl⟩:=Kind.slice a2
 obtain⟨ka,kc,rfl⟩:=Kind.slice a3
 exact⟨ba,bc,sa,sc,ka,kc,rfl⟩
set_option maxRecDepth 100000 in
set_option maxHeartbeats 2000000 in
theorem beginDC (p:Nat) (B:Nat→Prop) (d:DeskD) (tv rv kv nv sv:Value) (w:World) (hD:DeskW p B w d tv rv kv nv sv) (hB:¬B p):
  Calls Tryz.prog 135 #[.pointer (some ⟨p,0,none⟩)] w fun e w'=>∃v,e=.returned v∧DoneV p B w w' v (runsP d (beginP d.rules d.told)):=by
 have hp:=hD.lt
 obtain⟨w1,hw1⟩:∃w1,w1=w.alloc (.cells #[.int .i64 0,.int .i64 0,.int .i64 0,.slice none 0 0,.string ⟨#[]⟩,.slice none 0 0,.int .i64 0,.slice none 0 0] 64):=⟨_,rfl⟩
 have hz1:w1.heap.size=w.heap.size+1:=by rw[hw1];simp
 have hL1:Later w w1:=by rw[hw1];exact(Later.refl w).alloc _
 have hr1:w1.heap[w.heap.size]?=some (.cells #[.int .i64 0,.int .i64 0,.int .i64 0,.slice none 0 0,.string ⟨#[]⟩,.slice none 0 0,.int .i64 0,.slice none 0 0] 64 (0,0)):=by rw[hw1];exact zrow w
 have hD1:=hD.below hL1.below
 obtain⟨⟨c0,c1,c2,c3,c4,c5,c6,c7,c8⟩,cfz,_⟩:=row9 hD1.row
 obtain⟨⟨ta,tc,rfl⟩,⟨ra,rc,rfl⟩,⟨xka,xkc,rfl⟩,⟨xna,xnc,rfl⟩,⟨xsa,xsc,rfl⟩⟩:=hD.slices
 have HC:=hide (roundBegin d.rules d.told (.slice ra d.rules.length rc) (.slice ta d.told.length tc) w1.drew (Kind.sl_any hD1.rules) hD1.told.facts)
 have HFw:Hid ((beginP d.rules d.told).1=0→(beginP d.rules d.told).2.known.length≤200∧(beginP d.rules d.told).2.fresh.length≤200):=beginP_few
 have HW1:=hide hw1
 have HL1:=hide hL1
 have HR:=hide hr1
 have HD:=hide hD
 have HB:=hide hB
 clear hw1 hL1 hr1 hD hB hD1
 unfold NextT at HC
 generalize beginP d.rules d.told=X at*
 go_enter Tryz.func135,Tryz.ntmps135
 go_wp2_with (first|(rw[←HW1.out])|fail)
 refine wp_region_held_drew (S:=fun _=>True) (by kernel_rfl) trivial (fun hHeld=> ?_)
 refine take_yes (i:=0) (d:=some 3) (v:= ?_) rfl rfl hHeld ?_ ?_;rotate_left;focus intro w hSw;(try dsimp only at hSw);go_simp;try with_reducible rfl
 simp only[aput,aset,aze,asu]
 refine take_yes (i:=1) (d:=some 4) (v:= ?_) rfl rfl hHeld ?_ ?_;rotate_left;focus intro w hSw;(try dsimp only at hSw);go_simp;try with_reducible rfl
 simp only[aput,aset,aze,asu]
 refine take_yes (i:=2) (d:=some 5) (v:= ?_) rfl rfl hHeld ?_ ?_;rotate_left;focus intro w hSw;(try dsimp only at hSw);go_simp;try with_reducible rfl
 simp only[aput,aset,aze,asu]
 refine take_yes (i:=3) (d:=some 6) (v:= ?_) rfl rfl hHeld ?_ ?_;rotate_left;focus intro w hSw;(try dsimp only at hSw);go_simp;try with_reducible rfl
 simp only[aput,aset,aze,asu]
 refine take_yes (i:=4) (d:=some 7) (v:= ?_) rfl rfl hHeld ?_ ?_;rotate_left;focus intro w hSw;(try dsimp only at hSw);go_simp;try with_reducible rfl
 simp only[aput,aset,aze,asu]
 refine take_yes (i:=6) (d:=some 9) (v:= ?_) rfl rfl hHeld ?_ ?_;rotate_left;focus intro w hSw;(try dsimp only at hSw);go_simp;try with_reducible rfl
 simp only[aput,aset,aze,asu]
 refine take_yes (i:=7) (d:=some 10) (v:= ?_) rfl rfl hHeld ?_ ?_;rotate_left;focus intro w hSw;(try dsimp only at hSw);go_simp;try with_reducible rfl
 simp only[aput,aset,aze,asu]
 refine take_yes (i:=8) (d:=some 11) (v:= ?_) rfl rfl hHeld ?_ ?_;rotate_left;focus intro w hSw;(try dsimp only at hSw);go_simp;try with_reducible rfl
 simp only[aput,aset,aze,asu]
 refine take_yes (i:=9) (d:=some 12) (v:= ?_) rfl rfl hHeld ?_ ?_;rotate_left;focus intro w hSw;(try dsimp only at hSw);go_simp;try with_reducible rfl
 simp only[aput,aset,aze,asu]
 refine wpAnyH_ready (rs:=[5,10]) (by kernel_rfl) (by simp) ?_
 refine AllReadyH.cons rfl (fun K' hK=> ?gA) (AllReadyH.cons rfl (fun K' hK=> ?gB) AllReadyH.nil)
 case' gA=>
  go_simp
  refine hK.out _ _ trivial (fun hHeld=> ?_)
  clear hK K'
  refine wpAnyH_ready (rs:=[10]) (by kernel_rfl) (by simp) ?_
  refine AllReadyH.cons rfl (fun K' hK=> ?_) AllReadyH.nil
  go_simp
  refine hK.out _ _ trivial (fun hHeld=> ?_)
  clear hK K'
 case' gB=>
  go_simp
  refine hK.out _ _ trivial (fun hHeld=> ?_)
  clear hK K'
  refine wpAnyH_ready (rs:=[5]) (by kernel_rfl) (by simp) ?_
  refine AllReadyH.cons rfl (fun K' hK=> ?_) AllReadyH.nil
  go_simp
  refine hK.out _ _ trivial (fun hHeld=> ?_)
  clear hK K'
 all_goals
  clear c0 c1 c2 c3 c4 c5 c6 c7 c8
  refine wpAnyH_ready (rs:=[11]) (by kernel_rfl) (by simp) ?_
  refine AllReadyH.cons rfl (fun K' hK=> ?_) AllReadyH.nil
  go_simp
  refine HC.out.mono ?_
  rintro e w2 ⟨v2,er,rfl,⟨rfl,hO2⟩,hB2⟩
  obtain⟨kv2,nv2,rfl,hk2,hn2⟩:=hO2
  obtain⟨ka,kc,rfl⟩:=hk2.slice
  obtain⟨na,nc,rfl⟩:=hn2.slice
  refine hK.out _ _ trivial (fun hHeld=> ?_)
  clear hK K'
  have hB2:Below w1.heap.size w1 w2:=(Below.refl w1.heap.size w1).drew.trans hB2
  have hB02:Below w.heap.size w w2:=below_trans HL1.out.below hB2 HL1.out.size
  have hz2:w.heap.size<w2.heap.size:=by have:=hB2.size;omega
  have HRu:=hide (runsC p (fun k=>(B k∧k<w.heap.size)∨w.heap.size<k) d X.1 X.2 _ _ _ _ _ ka na kc nc w2 (HD.out.past hB02) (fun h=>by rcases h with h|h;exact HB.out h.1;omega)
   (fun h0=>⟨hk2.past (by have:=(HFw.out h0).1;omega) (by show w.heap.size<w1.heap.size+1;omega),hn2.past (by have:=(HFw.out h0).2;omega) (by show w.heap.size<w1.heap.size+1;omega)⟩))
  have hRz2:=(hB2.block w.heap.size (by omega)).trans HR.out
  have HRz2:=hide hRz2
  have HB02:=hide hB02
  clear hk2 hn2 hB2 hB02 HC hRz2
  refine take_yes (i:=12) (d:=some 15) (v:= ?_) rfl rfl hHeld ?_ ?_;rotate_left;focus intro w hSw;(try dsimp only at hSw);go_simp;try with_reducible rfl
  simp only[aput,aset,aze,asu]
  refine take_yes (i:=13) (d:=some 16) (v:= ?_) rfl rfl hHeld ?_ ?_;rotate_left;focus intro w hSw;(try dsimp only at hSw);go_simp;try with_reducible rfl
  simp only[aput,aset,aze,asu]
  refine wpAnyH_ready (rs:=[14]) (by kernel_rfl) (by simp) ?_
  refine AllReadyH.cons rfl (fun K' hK=> ?_) AllReadyH.nil
  go_simp
  refine HRu.out.mono ?_
  rintro e w3 ⟨v3,rfl,hDn⟩
  obtain⟨hA,hDk,hT3⟩:=DoneV.runs HB02.out hz2 hDn
  obtain⟨ba,bc,sa,sc,ka',kc',rfl⟩:=hA.slices
  have HA:=hide hA
  have HDk:=hide hDk
  have HT3:=hide hT3
  have HRz:Hid (w3.heap[w.heap.size]?=_):=(hDn.2.2.block _ hz2 (by omega)).trans HRz2.out
  obtain⟨⟨z0,z1,z2,z3,z4,z5,z6,z7⟩,zfz,zlt⟩:=row8 HRz.out
  refine hK.out _ _ trivial (fun hHeld=> ?_)
  clear hK K' hDn hA hDk hT3 HRu HRz2 HB02
  obtain⟨Y,hY⟩:∃Y,runsP d X=Y:=⟨_,rfl⟩
  rw[hY] at HA HDk
  simp only[hY]
  have HY:=hide hY
  clear hY
  refine wpAnyH_ready (rs:=[15]) (by kernel_rfl) (by simp) ?_
  refine AllReadyH.cons rfl (fun K' hK=> ?_) AllReadyH.nil
  go_simp
  refine hK.out _ _ trivial (fun hHeld=> ?_)
  clear hK K' hHeld
  refine wpAnyH_done (by kernel_rfl) ?_ _
  go_wp2
  have hrow:=put8_row HRz.out (.int .i64 Y.2.err) (.int .i64 Y.2.place) (.int .i64 Y.2.n) (.slice ba Y.2.binds.length bc) (.string Y.2.prf.fact.1) (.slice sa Y.2.prf.fact.2.length sc) (.int .i64 Y.2.prf.rule) (.slice ka' Y.2.prf.kids.length kc')
  obtain⟨⟨r0,r1,r2,r3,r4,r5,r6,r7⟩,_,_⟩:=row8 hrow
  unfold put8 at r0 r1 r2 r3 r4 r5 r6 r7
  have hTz:=put8_tn w3 w.heap.size (.int .i64 Y.2.err) (.int .i64 Y.2.place) (.int .i64 Y.2.n) (.slice ba Y.2.binds.length bc) (.string Y.2.prf.fact.1) (.slice sa Y.2.prf.fact.2.length sc) (.int .i64 Y.2.prf.rule) (.slice ka' Y.2.prf.kids.length kc')
  obtain⟨tv3,rv3,kv3,nv3,sv3,hD3⟩:=HDk.out
  exact bodyPost_ret (v:=.agg #[.int .i64 Y.2.err,.int .i64 Y.2.place,.int .i64 Y.2.n,.slice ba Y.2.binds.length bc,.string Y.2.prf.fact.1,.slice sa Y.2.prf.fact.2.length sc,.int .i64 Y.2.prf.rule,.slice ka' Y.2.prf.kids.length kc']) (by simp[results,Tryz.results135,go_sem,r0,r1,r2,r3,r4,r5,r6,r7]) rfl
   ⟨_,rfl,by rw[HY.out];exact DoneV.lay (R:=w.heap.size) HA.out hD3 HT3.out hTz (Nat.le_refl _) hp⟩
set_option maxRecDepth 100000 in
set_option maxHeartbeats 2000000 in
theorem stepDC (p:Nat) (B:Nat→Prop) (d:DeskD) (n:Int) (tv rv kv nv sv:Value) (w:World) (hD:DeskW p B w d tv rv kv nv sv) (hB:¬B p):
  Calls Tryz.prog 136 #[.pointer (some ⟨p,0,none⟩),.int .i64 n] w fun e w'=>∃v,e=.returned v∧DoneV p B w w' v (stepD d n):=by
 have hp:=hD.lt
 obtain⟨w1,hw1⟩:∃w1,w1=w.alloc (.cells #[.int .i64 0,.int .i64 0,.int .i64 0,.slice none 0 0,.string ⟨#[]⟩,.slice none 0 0,.int .i64 0,.slice none 0 0] 64):=⟨_,rfl⟩
 have hz1:w1.heap.size=w.heap.size+1:=by rw[hw1];simp
 have hL1:Later w w1:=by rw[hw1];exact(Later.refl w).alloc _
 have hr1:w1.heap[w.heap.size]?=some (.cells #[.int .i64 0,.int .i64 0,.int .i64 0,.slice none 0 0,.string ⟨#[]⟩,.slice none 0 0,.int .i64 0,.slice none 0 0] 64 (0,0)):=by rw[hw1];exact zrow w
 have hD1:=hD.below hL1.below
 obtain⟨⟨c0,c1,c2,c3,c4,c5,c6,c7,c8⟩,cfz,_⟩:=row9 hD1.row
 obtain⟨⟨ta,tc,rfl⟩,⟨ra,rc,rfl⟩,⟨xka,xkc,rfl⟩,⟨xna,xnc,rfl⟩,⟨xsa,xsc,rfl⟩⟩:=hD.slices
 have HC:=hide (roundSteps d.rules d.run n (.slice ra d.rules.length rc) (.slice xka d.run.known.length xkc) (.slice xna d.run.fresh.length xnc) w1.drew (Kind.sl_any hD1.rules) hD1.known.facts hD1.fresh.facts)
 have HFw:Hid ((stepsF d.rules d.run n).1=0→(stepsF d.rules d.run n).2.known.length≤200∧(stepsF d.rules d.run n).2.fresh.length≤200):=stepsF_few
 have HW1:=hide hw1
 have HL1:=hide hL1
 have HR:=hide hr1
 have HD:=hide hD
 have HB:=hide hB
 clear hw1 hL1 hr1 hD hB hD1
 unfold NextT at HC
 cases hrun:d.running with
 |false=>
  have HX:Hid (stepD d n=(d,ansE 11)):=by show _=_;unfold stepD;rw[if_pos hrun]
  rw[hrun] at c2
  clear hrun HC HFw
  have HC:=hide (refusedC 11 w1)
  unfold zansV at HC
  go_enter Tryz.func136,Tryz.ntmps136
  go_wp2_with (first|(rw[←HW1.out])|fail)
  refine HC.out.mono ?_
  rintro e w2 ⟨rfl,hB2⟩
  have HRz:Hid (w2.heap[w.heap.size]?=_):=(hB2.block _ (by omega)).trans HR.out
  obtain⟨⟨z0,z1,z2,z3,z4,z5,z6,z7⟩,zfz,zlt⟩:=row8 HRz.out
  have HB2:=hide (below_trans HL1.out.below hB2 HL1.out.size)
  clear hB2 HC HW1 c0 c1 c2 c3 c4 c5 c6 c7 c8
  go_wp2
  have hrow:=put8_row HRz.out (.int .i64 11) (.int .i64 0) (.int .i64 0) (.slice none 0 0) (.string ⟨#[]⟩) (.slice none 0 0) (.int .i64 0) (.slice none 0 0)
  obtain⟨⟨r0,r1,r2,r3,r4,r5,r6,r7⟩,_,_⟩:=row8 hrow
  unfold put8 at r0 r1 r2 r3 r4 r5 r6 r7
  have hTz:=put8_tn w2 w.heap.size (.int .i64 11) (.int .i64 0) (.int .i64 0) (.slice none 0 0) (.string ⟨#[]⟩) (.slice none 0 0) (.int .i64 0) (.slice none 0 0)
  have hD2:=(HD.out.mono (B':=fun k=>B k∧k<w.heap.size) fun _ hk hb=>⟨hb,hk⟩).below HB2.out
  exact bodyPost_ret (v:=.agg #[.int .i64 11,.int .i64 0,.int .i64 0,.slice none 0 0,.string ⟨#[]⟩,.slice none 0 0,.int .i64 0,.slice none 0 0]) (by simp[results,Tryz.results136,go_sem,r0,r1,r2,r3,r4,r5,r6,r7]) rfl
   ⟨_,rfl,by rw[HX.out];exact DoneV.lay (R:=w.heap.size) (AnsV.plain _ _ _ _ _) (hD2.mono fun k _ hb=>⟨Or.inl hb.1,by omega⟩) (Tn.of_below HB2.out) hTz (Nat.le_refl _) hp⟩
 |true=>
  have HX:Hid (stepD d n=runsP d (stepsF d.rules d.run n)):=by show _=_;unfold stepD;rw[if_neg (by rw[hrun];simp)]
  rw[hrun] at c2
  clear hrun
  rw[HX.out]
  generalize stepsF d.rules d.run n=X at*
  clear HX
  go_enter Tryz.func136,Tryz.ntmps136
  go_wp2_with (first|(rw[←HW1.out])|fail)
  refine wp_region_held_drew (S:=fun _=>True) (by kernel_rfl) trivial (fun hHeld=> ?_)
  refine take_yes (i:=0) (d:=some 12) (v:= ?_) rfl rfl hHeld ?_ ?_;rotate_left;focus intro w hSw;(try dsimp only at hSw);go_simp;try with_reducible rfl
  simp only[aput,aset,aze,asu]
  refine take_yes (i:=1) (d:=some 13) (v:= ?_) rfl rfl hHeld ?_ ?_;rotate_left;focus intro w hSw;(try dsimp only at hSw);go_simp;try with_reducible rfl
  simp only[aput,aset,aze,asu]
  refine take_yes (i:=2) (d:=some 14) (v:= ?_) rfl rfl hHeld ?_ ?_;rotate_left;focus intro w hSw;(try dsimp only at hSw);go_simp;try with_reducible rfl
  simp only[aput,aset,aze,asu]
  refine take_yes (i:=3) (d:=some 15) (v:= ?_) rfl rfl hHeld ?_ ?_;rotate_left;focus intro w hSw;(try dsimp only at hSw);go_simp;try with_reducible rfl
  simp only[aput,aset,aze,asu]
  refine take_yes (i:=4) (d:=some 16) (v:= ?_) rfl rfl hHeld ?_ ?_;rotate_left;focus intro w hSw;(try dsimp only at hSw);go_simp;try with_reducible rfl
  simp only[aput,aset,aze,asu]
  refine take_yes (i:=6) (d:=some 18) (v:= ?_) rfl rfl hHeld ?_ ?_;rotate_left;focus intro w hSw;(try dsimp only at hSw);go_simp;try with_reducible rfl
  simp only[aput,aset,aze,asu]
  refine take_yes (i:=7) (d:=some 19) (v:= ?_) rfl rfl hHeld ?_ ?_;rotate_left;focus intro w hSw;(try dsimp only at hSw);go_simp;try with_reducible rfl
  simp only[aput,aset,aze,asu]
  refine take_yes (i:=8) (d:=some 20) (v:= ?_) rfl rfl hHeld ?_ ?_;rotate_left;focus intro w hSw;(try dsimp only at hSw);go_simp;try with_reducible rfl
  simp only[aput,aset,aze,asu]
  refine take_yes (i:=9) (d:=some 21) (v:= ?_) rfl rfl hHeld ?_ ?_;rotate_left;focus intro w hSw;(try dsimp only at hSw);go_simp;try with_reducible rfl
  simp only[aput,aset,aze,asu]
  refine take_yes (i:=11) (d:=some 23) (v:= ?_) rfl rfl hHeld ?_ ?_;rotate_left;focus intro w hSw;(try dsimp only at hSw);go_simp;try with_reducible rfl
  simp only[aput,aset,aze,asu]
  refine wpAnyH_ready (rs:=[5,10]) (by kernel_rfl) (by simp) ?_
  refine AllReadyH.cons rfl (fun K' hK=> ?gA) (AllReadyH.cons rfl (fun K' hK=> ?gB) AllReadyH.nil)
  case' gA=>
   go_simp
   refine hK.out _ _ trivial (fun hHeld=> ?_)
   clear hK K'
   refine wpAnyH_ready (rs:=[10]) (by kernel_rfl) (by simp) ?_
   refine AllReadyH.cons rfl (fun K' hK=> ?_) AllReadyH.nil
   go_simp
   refine hK.out _ _ trivial (fun hHeld=> ?_)
   clear hK K'
  case' gB=>
   go_simp
   refine hK.out _ _ trivial (fun hHeld=> ?_)
   clear hK K'
   refine wpAnyH_ready (rs:=[5]) (by kernel_rfl) (by simp) ?_
   refine AllReadyH.cons rfl (fun K' hK=> ?_) AllReadyH.nil
   go_simp
   refine hK.out _ _ trivial (fun hHeld=> ?_)
   clear hK K'
  all_goals
   clear c0 c1 c2 c3 c4 c5 c6 c7 c8
   refine wpAnyH_ready (rs:=[12]) (by kernel_rfl) (by simp) ?_
   refine AllReadyH.cons rfl (fun K' hK=> ?_) AllReadyH.nil
   go_simp
   refine HC.out.mono ?_
   rintro e w2 ⟨v2,er,rfl,⟨rfl,hO2⟩,hB2⟩
   obtain⟨kv2,nv2,rfl,hk2,hn2⟩:=hO2
   obtain⟨ka,kc,rfl⟩:=hk2.slice
   obtain⟨na,nc,rfl⟩:=hn2.slice
   refine hK.out _ _ trivial (fun hHeld=> ?_)
   clear hK K'
   have hB2:Below w1.heap.size w1 w2:=(Below.refl w1.heap.size w1).drew.trans hB2
   have hB02:Below w.heap.size w w2:=below_trans HL1.out.below hB2 HL1.out.size
   have hz2:w.heap.size<w2.heap.size:=by have:=hB2.size;omega
   have HRu:=hide (runsC p (fun k=>(B k∧k<w.heap.size)∨w.heap.size<k) d X.1 X.2 _ _ _ _ _ ka na kc nc w2 (HD.out.past hB02) (fun h=>by rcases h with h|h;exact HB.out h.1;omega)
    (fun h0=>⟨hk2.past (by have:=(HFw.out h0).1;omega) (by show w.heap.size<w1.heap.size+2;omega),hn2.past (by have:=(HFw.out h0).2;omega) (by show w.heap.size<w1.heap.size+2;omega)⟩))
   have hRz2:=(hB2.block w.heap.size (by omega)).trans HR.out
   have HRz2:=hide hRz2
   have HB02:=hide hB02
   clear hk2 hn2 hB2 hB02 HC hRz2
   refine take_yes (i:=13) (d:=some 25) (v:= ?_) rfl rfl hHeld ?_ ?_;rotate_left;focus intro w hSw;(try dsimp only at hSw);go_simp;try with_reducible rfl
   simp only[aput,aset,aze,asu]
   refine take_yes (i:=14) (d:=some 26) (v:= ?_) rfl rfl hHeld ?_ ?_;rotate_left;focus intro w hSw;(try dsimp only at hSw);go_simp;try with_reducible rfl
   simp only[aput,aset,aze,asu]
   refine wpAnyH_ready (rs:=[15]) (by kernel_rfl) (by simp) ?_
   refine AllReadyH.cons rfl (fun K' hK=> ?_) AllReadyH.nil
   go_simp
   refine HRu.out.mono ?_
   rintro e w3 ⟨v3,rfl,hDn⟩
   obtain⟨hA,hDk,hT3⟩:=DoneV.runs HB02.out hz2 hDn
   obtain⟨ba,bc,sa,sc,ka',kc',rfl⟩:=hA.slices
   have HA:=hide hA
   have HDk:=hide hDk
   have HT3:=hide hT3
   have HRz:Hid (w3.heap[w.heap.size]?=_):=(hDn.2.2.block _ hz2 (by omega)).trans HRz2.out
   obtain⟨⟨z0,z1,z2,z3,z4,z5,z6,z7⟩,zfz,zlt⟩:=row8 HRz.out
   refine hK.out _ _ trivial (fun hHeld=> ?_)
   clear hK K' hDn hA hDk hT3 HRu HRz2 HB02
   obtain⟨Y,hY⟩:∃Y,runsP d X=Y:=⟨_,rfl⟩
   rw[hY] at HA HDk
   simp only[hY]
   have HY:=hide hY
   clear hY
   refine wpAnyH_ready (rs:=[16]) (by kernel_rfl) (by simp) ?_
   refine AllReadyH.cons rfl (fun K' hK=> ?_) AllReadyH.nil
   go_simp
   refine hK.out _ _ trivial (fun hHeld=> ?_)
   clear hK K' hHeld
   refine wpAnyH_done (by kernel_rfl) ?_ _
   go_wp2
   have hrow:=put8_row HRz.out (.int .i64 Y.2.err) (.int .i64 Y.2.place) (.int .i64 Y.2.n) (.slice ba Y.2.binds.length bc) (.string Y.2.prf.fact.1) (.slice sa Y.2.prf.fact.2.length sc) (.int .i64 Y.2.prf.rule) (.slice ka' Y.2.prf.kids.length kc')
   obtain⟨⟨r0,r1,r2,r3,r4,r5,r6,r7⟩,_,_⟩:=row8 hrow
   unfold put8 at r0 r1 r2 r3 r4 r5 r6 r7
   have hTz:=put8_tn w3 w.heap.size (.int .i64 Y.2.err) (.int .i64 Y.2.place) (.int .i64 Y.2.n) (.slice ba Y.2.binds.length bc) (.string Y.2.prf.fact.1) (.slice sa Y.2.prf.fact.2.length sc) (.int .i64 Y.2.prf.rule) (.slice ka' Y.2.prf.kids.length kc')
   obtain⟨tv3,rv3,kv3,nv3,sv3,hD3⟩:=HDk.out
   exact bodyPost_ret (v:=.agg #[.int .i64 Y.2.err,.int .i64 Y.2.place,.int .i64 Y.2.n,.slice ba Y.2.binds.length bc,.string Y.2.prf.fact.1,.slice sa Y.2.prf.fact.2.length sc,.int .i64 Y.2.prf.rule,.slice ka' Y.2.prf.kids.length kc']) (by simp[results,Tryz.results136,go_sem,r0,r1,r2,r3,r4,r5,r6,r7]) rfl
    ⟨_,rfl,by rw[HY.out];exact DoneV.lay (R:=w.heap.size) HA.out hD3 HT3.out hTz (Nat.le_refl _) hp⟩
set_option maxRecDepth 100000 in
set_option maxHeartbeats 2000000 in
theorem backDC (p:Nat) (B:Nat→Prop) (d:DeskD) (tv rv kv nv sv:Value) (w:World) (hD:DeskW p B w d tv rv kv nv sv) (hB:¬B p):
  Calls Tryz.prog 140 #[.pointer (some ⟨p,0,none⟩)] w fun e w'=>∃v,e=.returned v∧DoneV p B w w' v (backD d):=by
 have hp:=hD.lt
 obtain⟨w1,hw1⟩:∃w1,w1=w.alloc (.cells #[.int .i64 0,.int .i64 0,.int .i64 0,.slice none 0 0,.string ⟨#[]⟩,.slice none 0 0,.int .i64 0,.slice none 0 0] 64):=⟨_,rfl⟩
 have hz1:w1.heap.size=w.heap.size+1:=by rw[hw1];simp
 have hL1:Later w w1:=by rw[hw1];exact(Later.refl w).alloc _
 have hr1:w1.heap[w.heap.size]?=some (.cells #[.int .i64 0,.int .i64 0,.int .i64 0,.slice none 0 0,.string ⟨#[]⟩,.slice none 0 0,.int .i64 0,.slice none 0 0] 64 (0,0)):=by rw[hw1];exact zrow w
 have hD1:=hD.below hL1.below
 obtain⟨⟨c0,c1,c2,c3,c4,c5,c6,c7,c8⟩,cfz,_⟩:=row9 hD1.row
 obtain⟨⟨ta,tc,rfl⟩,⟨ra,rc,rfl⟩,⟨xka,xkc,rfl⟩,⟨xna,xnc,rfl⟩,⟨xsa,xsc,rfl⟩⟩:=hD.slices
 have HC:=hide (loadC d.rules d.saved (.slice ra d.rules.length rc) (.slice xsa d.saved.length xsc) w1.drew (Kind.sl_any hD1.rules) (LongB.of (Kind.sl_any hD1.saved)))
 have HFw:Hid ((loadP d.rules d.saved).1=0→(loadP d.rules d.saved).2.known.length≤200∧(loadP d.rules d.saved).2.fresh.length≤200):=fun _=>loadP_few
 have HW1:=hide hw1
 have HL1:=hide hL1
 have HR:=hide hr1
 have HD:=hide hD
 have HB:=hide hB
 clear hw1 hL1 hr1 hD hB hD1
 by_cases hsv:d.saved=[]
 ·have HX:Hid (backD d=(d,ansE 6)):=by show _=_;unfold backD;rw[if_pos hsv]
  have hq:d.saved.length=0:=by rw[hsv];rfl
  rw[hq] at c8
  clear hsv HC HFw hq
  have HC:=hide (refusedC 6 w1)
  unfold zansV at HC
  go_enter Tryz.func140,Tryz.ntmps140
  go_wp2_with (first|(rw[←HW1.out])|fail)
  refine HC.out.mono ?_
  rintro e w2 ⟨rfl,hB2⟩
  have HRz:Hid (w2.heap[w.heap.size]?=_):=(hB2.block _ (by omega)).trans HR.out
  obtain⟨⟨z0,z1,z2,z3,z4,z5,z6,z7⟩,zfz,zlt⟩:=row8 HRz.out
  have HB2:=hide (below_trans HL1.out.below hB2 HL1.out.size)
  clear hB2 HC HW1 c0 c1 c2 c3 c4 c5 c6 c7 c8
  go_wp2
  have hrow:=put8_row HRz.out (.int .i64 6) (.int .i64 0) (.int .i64 0) (.slice none 0 0) (.string ⟨#[]⟩) (.slice none 0 0) (.int .i64 0) (.slice none 0 0)
  obtain⟨⟨r0,r1,r2,r3,r4,r5,r6,r7⟩,_,_⟩:=row8 hrow
  unfold put8 at r0 r1 r2 r3 r4 r5 r6 r7
  have hTz:=put8_tn w2 w.heap.size (.int .i64 6) (.int .i64 0) (.int .i64 0) (.slice none 0 0) (.string ⟨#[]⟩) (.slice none 0 0) (.int .i64 0) (.slice none 0 0)
  have hD2:=(HD.out.mono (B':=fun k=>B k∧k<w.heap.size) fun _ hk hb=>⟨hb,hk⟩).below HB2.out
  exact bodyPost_ret (v:=.agg #[.int .i64 6,.int .i64 0,.int .i64 0,.slice none 0 0,.string ⟨#[]⟩,.slice none 0 0,.int .i64 0,.slice none 0 0]) (by simp[results,Tryz.results140,go_sem,r0,r1,r2,r3,r4,r5,r6,r7]) rfl
   ⟨_,rfl,by rw[HX.out];exact DoneV.lay (R:=w.heap.size) (AnsV.plain _ _ _ _ _) (hD2.mono fun k _ hb=>⟨Or.inl hb.1,by omega⟩) (Tn.of_below HB2.out) hTz (Nat.le_refl _) hp⟩
 ·have HX:Hid (backD d=runsP d (loadP d.rules d.saved)):=by show _=_;unfold backD;rw[if_neg hsv]
  have hq:(((d.saved.length:Nat):Int)==0)=false:=by
   cases h:d.saved with
   |nil=>exact absurd h hsv
   |cons a l=>simp;omega
  clear hsv
  rw[HX.out]
  generalize loadP d.rules d.saved=X at*
  clear HX
  go_enter Tryz.func140,Tryz.ntmps140
  go_wp2_with (first|(rw[←HW1.out])|fail)
  refine wp_region_held_drew (S:=fun _=>True) (by kernel_rfl) trivial (fun hHeld=> ?_)
  refine take_yes (i:=0) (d:=some 11) (v:= ?_) rfl rfl hHeld ?_ ?_;rotate_left;focus intro w hSw;(try dsimp only at hSw);go_simp;try with_reducible rfl
  simp only[aput,aset,aze,asu]
  refine take_yes (i:=1) (d:=some 12) (v:= ?_) rfl rfl hHeld ?_ ?_;rotate_left;focus intro w hSw;(try dsimp only at hSw);go_simp;try with_reducible rfl
  simp only[aput,aset,aze,asu]
  refine take_yes (i:=2) (d:=some 13) (v:= ?_) rfl rfl hHeld ?_ ?_;rotate_left;focus intro w hSw;(try dsimp only at hSw);go_simp;try with_reducible rfl
  simp only[aput,aset,aze,asu]
  refine take_yes (i:=3) (d:=some 14) (v:= ?_) rfl rfl hHeld ?_ ?_;rotate_left;focus intro w hSw;(try dsimp only at hSw);go_simp;try with_reducible rfl
  simp only[aput,aset,aze,asu]
  refine take_yes (i:=4) (d:=some 15) (v:= ?_) rfl rfl hHeld ?_ ?_;rotate_left;focus intro w hSw;(try dsimp only at hSw);go_simp;try with_reducible rfl
  simp only[aput,aset,aze,asu]
  refine take_yes (i:=6) (d:=some 17) (v:= ?_) rfl rfl hHeld ?_ ?_;rotate_left;focus intro w hSw;(try dsimp only at hSw);go_simp;try with_reducible rfl
  simp only[aput,aset,aze,asu]
  refine take_yes (i:=7) (d:=some 18) (v:= ?_) rfl rfl hHeld ?_ ?_;rotate_left;focus intro w hSw;(try dsimp only at hSw);go_simp;try with_reducible rfl
  simp only[aput,aset,aze,asu]
  refine take_yes (i:=8) (d:=some 19) (v:= ?_) rfl rfl hHeld ?_ ?_;rotate_left;focus intro w hSw;(try dsimp only at hSw);go_simp;try with_reducible rfl
  simp only[aput,aset,aze,asu]
  refine take_yes (i:=9) (d:=some 20) (v:= ?_) rfl rfl hHeld ?_ ?_;rotate_left;focus intro w hSw;(try dsimp only at hSw);go_simp;try with_reducible rfl
  simp only[aput,aset,aze,asu]
  refine wpAnyH_ready (rs:=[5,10]) (by kernel_rfl) (by simp) ?_
  refine AllReadyH.cons rfl (fun K' hK=> ?gA) (AllReadyH.cons rfl (fun K' hK=> ?gB) AllReadyH.nil)
  case' gA=>
   go_simp
   refine hK.out _ _ trivial (fun hHeld=> ?_)
   clear hK K'
   refine wpAnyH_ready (rs:=[10]) (by kernel_rfl) (by simp) ?_
   refine AllReadyH.cons rfl (fun K' hK=> ?_) AllReadyH.nil
   go_simp
   refine hK.out _ _ trivial (fun hHeld=> ?_)
   clear hK K'
  case' gB=>
   go_simp
   refine hK.out _ _ trivial (fun hHeld=> ?_)
   clear hK K'
   refine wpAnyH_ready (rs:=[5]) (by kernel_rfl) (by simp) ?_
   refine AllReadyH.cons rfl (fun K' hK=> ?_) AllReadyH.nil
   go_simp
   refine hK.out _ _ trivial (fun hHeld=> ?_)
   clear hK K'
  all_goals
   clear c0 c1 c2 c3 c4 c5 c6 c7 c8
   refine wpAnyH_ready (rs:=[11]) (by kernel_rfl) (by simp) ?_
   refine AllReadyH.cons rfl (fun K' hK=> ?_) AllReadyH.nil
   go_simp
   refine HC.out.mono ?_
   rintro e w2 ⟨v2,rfl,hO2,hB2⟩
   obtain⟨kv2,nv2,rfl,hk2,hn2⟩:=hO2
   obtain⟨ka,kc,rfl⟩:=hk2.slice
   obtain⟨na,nc,rfl⟩:=hn2.slice
   refine hK.out _ _ trivial (fun hHeld=> ?_)
   clear hK K'
   have hB2:Below w1.heap.size w1 w2:=(Below.refl w1.heap.size w1).drew.trans hB2
   have hB02:Below w.heap.size w w2:=below_trans HL1.out.below hB2 HL1.out.size
   have hz2:w.heap.size<w2.heap.size:=by have:=hB2.size;omega
   have HRu:=hide (runsC p (fun k=>(B k∧k<w.heap.size)∨w.heap.size<k) d X.1 X.2 _ _ _ _ _ ka na kc nc w2 (HD.out.past hB02) (fun h=>by rcases h with h|h;exact HB.out h.1;omega)
    (fun h0=>⟨hk2.past (by have:=(HFw.out h0).1;omega) (by show w.heap.size<w1.heap.size+1;omega),hn2.past (by have:=(HFw.out h0).2;omega) (by show w.heap.size<w1.heap.size+1;omega)⟩))
   have hRz2:=(hB2.block w.heap.size (by omega)).trans HR.out
   have HRz2:=hide hRz2
   have HB02:=hide hB02
   clear hk2 hn2 hB2 hB02 HC hRz2
   refine take_yes (i:=12) (d:=some 23) (v:= ?_) rfl rfl hHeld ?_ ?_;rotate_left;focus intro w hSw;(try dsimp only at hSw);go_simp;try with_reducible rfl
   simp only[aput,aset,aze,asu]
   refine take_yes (i:=13) (d:=some 24) (v:= ?_) rfl rfl hHeld ?_ ?_;rotate_left;focus intro w hSw;(try dsimp only at hSw);go_simp;try with_reducible rfl
   simp only[aput,aset,aze,asu]
   refine wpAnyH_ready (rs:=[14]) (by kernel_rfl) (by simp) ?_
   refine AllReadyH.cons rfl (fun K' hK=> ?_) AllReadyH.nil
   go_simp
   refine HRu.out.mono ?_
   rintro e w3 ⟨v3,rfl,hDn⟩
   obtain⟨hA,hDk,hT3⟩:=DoneV.runs HB02.out hz2 hDn
   obtain⟨ba,bc,sa,sc,ka',kc',rfl⟩:=hA.slices
   have HA:=hide hA
   have HDk:=hide hDk
   have HT3:=hide hT3
   have HRz:Hid (w3.heap[w.heap.size]?=_):=(hDn.2.2.block _ hz2 (by omega)).trans HRz2.out
   obtain⟨⟨z0,z1,z2,z3,z4,z5,z6,z7⟩,zfz,zlt⟩:=row8 HRz.out
   refine hK.out _ _ trivial (fun hHeld=> ?_)
   clear hK K' hDn hA hDk hT3 HRu HRz2 HB02
   obtain⟨Y,hY⟩:∃Y,runsP d X=Y:=⟨_,rfl⟩
   rw[hY] at HA HDk
   simp only[hY]
   have HY:=hide hY
   clear hY
   refine wpAnyH_ready (rs:=[15]) (by kernel_rfl) (by simp) ?_
   refine AllReadyH.cons rfl (fun K' hK=> ?_) AllReadyH.nil
   go_simp
   refine hK.out _ _ trivial (fun hHeld=> ?_)
   clear hK K' hHeld
   refine wpAnyH_done (by kernel_rfl) ?_ _
   go_wp2
   have hrow:=put8_row HRz.out (.int .i64 Y.2.err) (.int .i64 Y.2.place) (.int .i64 Y.2.n) (.slice ba Y.2.binds.length bc) (.string Y.2.prf.fact.1) (.slice sa Y.2.prf.fact.2.length sc) (.int .i64 Y.2.prf.rule) (.slice ka' Y.2.prf.kids.length kc')
   obtain⟨⟨r0,r1,r2,r3,r4,r5,r6,r7⟩,_,_⟩:=row8 hrow
   unfold put8 at r0 r1 r2 r3 r4 r5 r6 r7
   have hTz:=put8_tn w3 w.heap.size (.int .i64 Y.2.err) (.int .i64 Y.2.place) (.int .i64 Y.2.n) (.slice ba Y.2.binds.length bc) (.string Y.2.prf.fact.1) (.slice sa Y.2.prf.fact.2.length sc) (.int .i64 Y.2.prf.rule) (.slice ka' Y.2.prf.kids.length kc')
   obtain⟨tv3,rv3,kv3,nv3,sv3,hD3⟩:=HDk.out
   exact bodyPost_ret (v:=.agg #[.int .i64 Y.2.err,.int .i64 Y.2.place,.int .i64 Y.2.n,.slice ba Y.2.binds.length bc,.string Y.2.prf.fact.1,.slice sa Y.2.prf.fact.2.length sc,.int .i64 Y.2.prf.rule,.slice ka' Y.2.prf.kids.length kc']) (by simp[results,Tryz.results140,go_sem,r0,r1,r2,r3,r4,r5,r6,r7]) rfl
    ⟨_,rfl,by rw[HY.out];exact DoneV.lay (R:=w.heap.size) HA.out hD3 HT3.out hTz (Nat.le_refl _) hp⟩
end Go.Proofs.YtafmbokfkbccaaaGreatDoor
namespace Go.Proofs.YtafmbokfkbccaaaGreatDoor
open Go.RowKit Go.Sort
set_option maxRecDepth 100000 in
set_option maxHeartbeats 2000000 in
theorem saveDC (p:Nat) (B:Nat→Prop) (d:DeskD) (tv rv kv nv sv:Value) (w:World) (hD:DeskW p B w d tv rv kv nv sv) (hB:¬B p):
  Calls Tryz.prog 139 #[.pointer (some ⟨p,0,none⟩)] w fun e w'=>∃v,e=.returned v∧DoneV p B w w' v (saveD d):=by
 have hp:=hD.lt
 obtain⟨w1,hw1⟩:∃w1,w1=w.alloc (.cells #[.int .i64 0,.int .i64 0,.int .i64 0,.slice none 0 0,.string ⟨#[]⟩,.slice none 0 0,.int .i64 0,.slice none 0 0] 64):=⟨_,rfl⟩
 have hz1:w1.heap.size=w.heap.size+1:=by rw[hw1];simp
 have hL1:Later w w1:=by rw[hw1];exact(Later.refl w).alloc _
 have hr1:w1.heap[w.heap.size]?=some (.cells #[.int .i64 0,.int .i64 0,.int .i64 0,.slice none 0 0,.string ⟨#[]⟩,.slice none 0 0,.int .i64 0,.slice none 0 0] 64 (0,0)):=by rw[hw1];exact zrow w
 have hD1:=hD.below hL1.below
 obtain⟨⟨c0,c1,c2,c3,c4,c5,c6,c7,c8⟩,cfz,_⟩:=row9 hD1.row
 obtain⟨⟨ta,tc,rfl⟩,⟨ra,rc,rfl⟩,⟨xka,xkc,rfl⟩,⟨xna,xnc,rfl⟩,⟨xsa,xsc,rfl⟩⟩:=hD.slices
 have HC:=hide (saveC d.rules d.run (.slice ra d.rules.length rc) (.slice xka d.run.known.length xkc) (.slice xna d.run.fresh.length xnc) w1.drew (Kind.sl_any hD1.rules) hD1.known.facts hD1.fresh.facts)
 have HFw:Hid ((saveP d.rules d.run).2.length≤17001000):=saveP_few
 have HSp:Hid (∀w':World,w'.heap[p]?=w1.heap[p]?→w'.heap[p]?=some (.cells #[.slice ta d.told.length tc,.slice ra d.rules.length rc,.bool d.running,.slice xka d.run.known.length xkc,.slice xna d.run.fresh.length xnc,.int .i64 d.run.level,.int .i64 d.run.rounds,.bool d.run.done,.slice xsa d.saved.length xsc] 140 (0,0))):=fun w' h=>h.trans hD1.row
 have HW1:=hide hw1
 have HL1:=hide hL1
 have HR:=hide hr1
 have HD:=hide hD
 have HB:=hide hB
 clear hw1 hL1 hr1 hD hB hD1
 cases hrun:d.running with
 |false=>
  have HX:Hid (saveD d=(d,ansE 11)):=by show _=_;unfold saveD;rw[if_pos hrun]
  rw[hrun] at c2
  clear hrun HC HFw HSp
  have HC:=hide (refusedC 11 w1)
  unfold zansV at HC
  go_enter Tryz.func139,Tryz.ntmps139
  go_wp2_with (first|(rw[←HW1.out])|fail)
  refine HC.out.mono ?_
  rintro e w2 ⟨rfl,hB2⟩
  have HRz:Hid (w2.heap[w.heap.size]?=_):=(hB2.block _ (by omega)).trans HR.out
  obtain⟨⟨z0,z1,z2,z3,z4,z5,z6,z7⟩,zfz,zlt⟩:=row8 HRz.out
  have HB2:=hide (below_trans HL1.out.below hB2 HL1.out.size)
  clear hB2 HC HW1 c0 c1 c2 c3 c4 c5 c6 c7 c8
  go_wp2
  have hrow:=put8_row HRz.out (.int .i64 11) (.int .i64 0) (.int .i64 0) (.slice none 0 0) (.string ⟨#[]⟩) (.slice none 0 0) (.int .i64 0) (.slice none 0 0)
  obtain⟨⟨r0,r1,r2,r3,r4,r5,r6,r7⟩,_,_⟩:=row8 hrow
  unfold put8 at r0 r1 r2 r3 r4 r5 r6 r7
  have hTz:=put8_tn w2 w.heap.size (.int .i64 11) (.int .i64 0) (.int .i64 0) (.slice none 0 0) (.string ⟨#[]⟩) (.slice none 0 0) (.int .i64 0) (.slice none 0 0)
  have hD2:=(HD.out.mono (B':=fun k=>B k∧k<w.heap.size) fun _ hk hb=>⟨hb,hk⟩).below HB2.out
  exact bodyPost_ret (v:=.agg #[.int .i64 11,.int .i64 0,.int .i64 0,.slice none 0 0,.string ⟨#[]⟩,.slice none 0 0,.int .i64 0,.slice none 0 0]) (by simp[results,Tryz.results139,go_sem,r0,r1,r2,r3,r4,r5,r6,r7]) rfl
   ⟨_,rfl,by rw[HX.out];exact DoneV.lay (R:=w.heap.size) (AnsV.plain _ _ _ _ _) (hD2.mono fun k _ hb=>⟨Or.inl hb.1,by omega⟩) (Tn.of_below HB2.out) hTz (Nat.le_refl _) hp⟩
 |true=>
  have HX0:Hid (saveD d=if(saveP d.rules d.run).1≠0 then(d,ansE (saveP d.rules d.run).1) else({d with saved:=(saveP d.rules d.run).2},ansN (saveP d.rules d.run).2.length)):=by show _=_;unfold saveD;rw[if_neg (by rw[hrun];simp)]
  rw[hrun] at c2
  clear hrun
  obtain⟨er,sb,hsp⟩:∃er sb,saveP d.rules d.run=(er,sb):=⟨_,_,rfl⟩
  rw[hsp] at HX0 HC HFw
  clear hsp
  dsimp only at HX0 HC HFw
  go_enter Tryz.func139,Tryz.ntmps139
  go_wp2_with (first|(rw[←HW1.out])|fail)
  clear c0 c1 c2 c3 c4 c5 c6 c7 c8 cfz
  refine wp_region_held_drew (S:=fun w'=>w'.heap[p]?=w1.heap[p]?) (by kernel_rfl) rfl (fun hHeld=> ?_)
  refine take_yes (i:=0) (d:=some 13) (v:= ?_) rfl rfl hHeld ?_ ?_;rotate_left;focus intro w hSw;(try dsimp only at hSw);obtain⟨⟨c0,c1,c2,c3,c4,c5,c6,c7,c8⟩,cfz,_⟩:=row9 (HSp.out _ hSw);go_simp;try with_reducible rfl
  simp only[aput,aset,aze,asu]
  refine take_yes (i:=1) (d:=some 14) (v:= ?_) rfl rfl hHeld ?_ ?_;rotate_left;focus intro w hSw;(try dsimp only at hSw);obtain⟨⟨c0,c1,c2,c3,c4,c5,c6,c7,c8⟩,cfz,_⟩:=row9 (HSp.out _ hSw);go_simp;try with_reducible rfl
  simp only[aput,aset,aze,asu]
  refine take_yes (i:=2) (d:=some 15) (v:= ?_) rfl rfl hHeld ?_ ?_;rotate_left;focus intro w hSw;(try dsimp only at hSw);obtain⟨⟨c0,c1,c2,c3,c4,c5,c6,c7,c8⟩,cfz,_⟩:=row9 (HSp.out _ hSw);go_simp;try with_reducible rfl
  simp only[aput,aset,aze,asu]
  refine take_yes (i:=3) (d:=some 16) (v:= ?_) rfl rfl hHeld ?_ ?_;rotate_left;focus intro w hSw;(try dsimp only at hSw);obtain⟨⟨c0,c1,c2,c3,c4,c5,c6,c7,c8⟩,cfz,_⟩:=row9 (HSp.out _ hSw);go_simp;try with_reducible rfl
  simp only[aput,aset,aze,asu]
  refine take_yes (i:=4) (d:=some 17) (v:= ?_) rfl rfl hHeld ?_ ?_;rotate_left;focus intro w hSw;(try dsimp only at hSw);obtain⟨⟨c0,c1,c2,c3,c4,c5,c6,c7,c8⟩,cfz,_⟩:=row9 (HSp.out _ hSw);go_simp;try with_reducible rfl
  simp only[aput,aset,aze,asu]
  refine take_yes (i:=5) (d:=some 18) (v:= ?_) rfl rfl hHeld ?_ ?_;rotate_left;focus intro w hSw;(try dsimp only at hSw);obtain⟨⟨c0,c1,c2,c3,c4,c5,c6,c7,c8⟩,cfz,_⟩:=row9 (HSp.out _ hSw);go_simp;try with_reducible rfl
  simp only[aput,aset,aze,asu]
  refine take_yes (i:=6) (d:=some 19) (v:= ?_) rfl rfl hHeld ?_ ?_;rotate_left;focus intro w hSw;(try dsimp only at hSw);obtain⟨⟨c0,c1,c2,c3,c4,c5,c6,c7,c8⟩,cfz,_⟩:=row9 (HSp.out _ hSw);go_simp;try with_reducible rfl
  simp only[aput,aset,aze,asu]
  refine take_yes (i:=7) (d:=some 20) (v:= ?_) rfl rfl hHeld ?_ ?_;rotate_left;focus intro w hSw;(try dsimp only at hSw);obtain⟨⟨c0,c1,c2,c3,c4,c5,c6,c7,c8⟩,cfz,_⟩:=row9 (HSp.out _ hSw);go_simp;try with_reducible rfl
  simp only[aput,aset,aze,asu]
  refine take_yes (i:=8) (d:=some 21) (v:= ?_) rfl rfl hHeld ?_ ?_;rotate_left;focus intro w hSw;(try dsimp only at hSw);obtain⟨⟨c0,c1,c2,c3,c4,c5,c6,c7,c8⟩,cfz,_⟩:=row9 (HSp.out _ hSw);go_simp;try with_reducible rfl
  simp only[aput,aset,aze,asu]
  refine take_yes (i:=9) (d:=some 22) (v:= ?_) rfl rfl hHeld ?_ ?_;rotate_left;focus intro w hSw;(try dsimp only at hSw);obtain⟨⟨c0,c1,c2,c3,c4,c5,c6,c7,c8⟩,cfz,_⟩:=row9 (HSp.out _ hSw);go_simp;try with_reducible rfl
  simp only[aput,aset,aze,asu]
  refine wpAnyH_ready (rs:=[10]) (by kernel_rfl) (by simp) ?_
  refine AllReadyH.cons rfl (fun K' hK=> ?_) AllReadyH.nil
  go_simp
  refine HC.out.mono ?_
  rintro e w2 ⟨v2,rfl,hO2,hB2⟩
  obtain⟨sa,sc,rfl⟩:=hO2.slice
  have hB12:Below w1.heap.size w1 w2:=(Below.refl w1.heap.size w1).drew.trans hB2
  refine hK.out _ _ (hB12.block p (by omega)) (fun hHeld=> ?_)
  clear hK K'
  refine take_yes (i:=11) (d:=some 12) (v:= ?_) rfl rfl hHeld ?_ ?_;rotate_left;focus intro w hSw;(try dsimp only at hSw);go_simp;try with_reducible rfl
  simp only[aput,aset,aze,asu]
  refine take_yes (i:=12) (d:=some 24) (v:= ?_) rfl rfl hHeld ?_ ?_;rotate_left;focus intro w hSw;(try dsimp only at hSw);go_simp;try with_reducible rfl
  simp only[aput,aset,aze,asu]
  refine take_yes (i:=13) (d:=some 25) (v:= ?_) rfl rfl hHeld ?_ ?_;rotate_left;focus intro w hSw;(try dsimp only at hSw);go_simp;try with_reducible rfl
  simp only[aput,aset,aze,asu]
  refine take_yes (i:=14) (d:=some 3) (v:= ?_) rfl rfl hHeld ?_ ?_;rotate_left;focus intro w hSw;(try dsimp only at hSw);go_simp;try with_reducible rfl
  simp only[aput,aset,aze,asu]
  refine take_yes (i:=15) (d:=some 4) (v:= ?_) rfl rfl hHeld ?_ ?_;rotate_left;focus intro w hSw;(try dsimp only at hSw);go_simp;try with_reducible rfl
  simp only[aput,aset,aze,asu]
  clear hHeld
  refine wpAnyH_done (by kernel_rfl) ?_ _
  have HBw:Hid (Below w.heap.size w w2):=below_trans HL1.out.below hB12 HL1.out.size
  have HRz0:Hid (w2.heap[w.heap.size]?=_):=(hB12.block _ (by omega)).trans HR.out
  have hz2:w.heap.size<w2.heap.size:=by have:=hB12.size;omega
  have HO2:Hid (BytO w1.heap.size w2 (.slice sa sb.length sc) sb):=hO2
  clear hO2 hB2 HC HSp HW1
  by_cases h0:er=0
  ·subst h0
   have HX:Hid (saveD d=({d with saved:=sb},ansN sb.length)):=by show _=_;rw[HX0.out];simp
   have hD2:=HD.out.past (m:=w.heap.size) HBw.out
   obtain⟨⟨c0,c1,c2,c3,c4,c5,c6,c7,c8⟩,cfz,_⟩:=row9 hD2.row
   obtain⟨w3,hw3⟩:∃w3,w3=w2.setCell ⟨p,8,none⟩ (.slice sa sb.length sc):=⟨_,rfl⟩
   have hT3:Tn p w2 w3:=by rw[hw3];exact(Tn.refl p w2).setCell (Or.inl rfl) _
   have hrow3:=set_row (j:=8) hD2.row (.slice sa sb.length sc)
   rw[←hw3] at hrow3
   have HRz:Hid (w3.heap[w.heap.size]?=_):=(hT3.block _ hz2 (by omega)).trans HRz0.out
   obtain⟨⟨z0,z1,z2,z3,z4,z5,z6,z7⟩,zfz,zlt⟩:=row8 HRz.out
   have hw:∀k,k<w3.heap.size→((B k∧k<w.heap.size)∨w.heap.size<k)→(B k∨w.heap.size≤k)∧k≠w.heap.size:=fun k _ hb=>by
    rcases hb with hb|hb
    ·exact⟨Or.inl hb.1,by omega⟩
    ·exact⟨Or.inr (by omega),by omega⟩
   have hkk:∀k,k<w2.heap.size→((B k∧k<w.heap.size)∨w.heap.size<k)→w3.heap[k]?=w2.heap[k]?:=fun k hk hb=>hT3.block k hk (fun e=>by
    rcases hb with hb|hb
    ·exact HB.out (e▸hb.1)
    ·omega)
   have hsl:byteK.sl (fun k=>(B k∧k<w.heap.size)∨w.heap.size<k) w2 (.slice sa sb.length sc) sb:=Kind.sl_mono (HO2.out.sl (by have:=HFw.out;omega)) fun k _ hk=>Or.inr (by have:w1.heap.size≤k:=hk;omega)
   have HD3:Hid (DeskW p (fun k=>(B k∨w.heap.size≤k)∧k≠w.heap.size) w3 {d with saved:=sb} _ _ _ _ (.slice sa sb.length sc)):=⟨hrow3,(hD2.told.kept hT3.size hkk).mono hw,Kind.sl_mono (Kind.sl_kept hD2.rules hT3.size hkk) hw,(hD2.known.kept hT3.size hkk).mono hw,(hD2.fresh.kept hT3.size hkk).mono hw,Kind.sl_mono (Kind.sl_kept hsl hT3.size hkk) hw⟩
   have HT3:Hid (Tn p w w3):=(Tn.of_below HBw.out).trans hT3
   have HW3:=hide hw3
   clear hD2 hrow3 hw hkk hsl hT3 hw3 HRz0 HX0 HO2 HFw hB12
   generalize sb.length=sn at*
   go_wp2_with (rw[←HW3.out])
   have hrow:=put8_row HRz.out (.int .i64 0) (.int .i64 0) (.int .i64 sn) (.slice none 0 0) (.string ⟨#[]⟩) (.slice none 0 0) (.int .i64 0) (.slice none 0 0)
   obtain⟨⟨r0,r1,r2,r3,r4,r5,r6,r7⟩,_,_⟩:=row8 hrow
   unfold put8 at r0 r1 r2 r3 r4 r5 r6 r7
   have hTz:=put8_tn w3 w.heap.size (.int .i64 0) (.int .i64 0) (.int .i64 sn) (.slice none 0 0) (.string ⟨#[]⟩) (.slice none 0 0) (.int .i64 0) (.slice none 0 0)
   exact bodyPost_ret (v:=.agg #[.int .i64 0,.int .i64 0,.int .i64 sn,.slice none 0 0,.string ⟨#[]⟩,.slice none 0 0,.int .i64 0,.slice none 0 0]) (by simp[results,Tryz.results139,go_sem,r0,r1,r2,r3,r4,r5,r6,r7]) rfl
    ⟨_,rfl,by rw[HX.out];exact DoneV.lay (R:=w.heap.size) (AnsV.plain _ _ _ _ _) HD3.out HT3.out hTz (Nat.le_refl _) hp⟩
  ·have HX:Hid (saveD d=(d,ansE er)):=by show _=_;rw[HX0.out,if_pos h0]
   have hne:(er != 0)=true:=by simpa using h0
   clear h0 HX0 HO2 HFw hB12
   generalize sb.length=sn at*
   have HCr:=hide (refusedC er w2)
   unfold zansV at HCr
   go_wp2_with fail
   refine HCr.out.mono ?_
   rintro e w3 ⟨rfl,hBr⟩
   have HRz:Hid (w3.heap[w.heap.size]?=_):=(hBr.block _ (by omega)).trans HRz0.out
   obtain⟨⟨z0,z1,z2,z3,z4,z5,z6,z7⟩,zfz,zlt⟩:=row8 HRz.out
   have HBn:=hide (below_trans HBw.out hBr HBw.out.size)
   clear hBr HCr
   go_wp2
   have hD2:=(HD.out.mono (B':=fun k=>B k∧k<w.heap.size) fun _ hk hb=>⟨hb,hk⟩).below HBn.out
   have hrow:=put8_row HRz.out (.int .i64 er) (.int .i64 0) (.int .i64 0) (.slice none 0 0) (.string ⟨#[]⟩) (.slice none 0 0) (.int .i64 0) (.slice none 0 0)
   obtain⟨⟨r0,r1,r2,r3,r4,r5,r6,r7⟩,_,_⟩:=row8 hrow
   unfold put8 at r0 r1 r2 r3 r4 r5 r6 r7
   have hTz:=put8_tn w3 w.heap.size (.int .i64 er) (.int .i64 0) (.int .i64 0) (.slice none 0 0) (.string ⟨#[]⟩) (.slice none 0 0) (.int .i64 0) (.slice none 0 0)
   exact bodyPost_ret (v:=.agg #[.int .i64 er,.int .i64 0,.int .i64 0,.slice none 0 0,.string ⟨#[]⟩,.slice none 0 0,.int .i64 0,.slice none 0 0]) (by simp[results,Tryz.results139,go_sem,r0,r1,r2,r3,r4,r5,r6,r7]) rfl
    ⟨_,rfl,by rw[HX.out];exact DoneV.lay (R:=w.heap.size) (AnsV.plain _ _ _ _ _) (hD2.mono fun k _ hb=>⟨Or.inl hb.1,by omega⟩) (Tn.of_below HBn.out) hTz (by omega) hp⟩
end Go.Proofs.YtafmbokfkbccaaaGreatDoor
namespace Go.Proofs.YtafmbokfkbccaaaGreatDoor
open Go.RowKit Go.Sort
theorem factOne' {w:World} {c:Nat} {f:FactB} {s0:Value} {t:TypeId} {fr:Nat×Nat} (h:w.heap[c]?=some (.cells #[.string f.1,s0] t fr)) (h0:Strs w s0 f.2):Facts w (.slice (some ⟨c,0,none⟩) 1 1) [f]:=by
 refine⟨by simp,_,1,rfl,fun _=>⟨c,0,rfl,(Array.getElem?_eq_some_iff.1 h).1,fun i hi=> ?_⟩⟩
 rw[cell_of_row _ _ _ _ _ _ h,cell_of_row _ _ _ _ _ _ h]
 simp at hi
 subst hi
 exact⟨rfl,s0,rfl,h0⟩
theorem SetOf.isF {s l:List FactB} (h:SetOf s l):s=setF l:=setF_of h.1 h.2.1
set_option maxRecDepth 100000 in
set_option maxHeartbeats 2000000 in
theorem tellDC (p:Nat) (B:Nat→Prop) (d:DeskD) (f:FactB) (fv tv rv kv nv sv:Value) (w:World) (hD:DeskW p B w d tv rv kv nv sv) (hB:¬B p) (hf:FactV w fv f):
  Calls Tryz.prog 133 #[.pointer (some ⟨p,0,none⟩),fv] w fun e w'=>∃v,e=.returned v∧DoneV p B w w' v (tellP d f):=by
 have hp:=hD.lt
 obtain⟨fs,rfl,hfs⟩:=hf
 obtain⟨fa,fc,rfl⟩:=sliceStr hfs
 obtain⟨w1,hw1⟩:∃w1,w1=w.alloc (.cells #[.string f.1,.slice fa f.2.length fc] 27):=⟨_,rfl⟩
 obtain⟨w2,hw2⟩:∃w2,w2=w1.alloc (.cells #[.int .i64 0,.int .i64 0,.int .i64 0,.slice none 0 0,.string ⟨#[]⟩,.slice none 0 0,.int .i64 0,.slice none 0 0] 64):=⟨_,rfl⟩
 have hz1:w1.heap.size=w.heap.size+1:=by rw[hw1];simp
 have hz2:w2.heap.size=w.heap.size+2:=by rw[hw2];simp;omega
 have hL1:Later w w1:=by rw[hw1];exact(Later.refl w).alloc _
 have hL12:Later w1 w2:=by rw[hw2];exact(Later.refl w1).alloc _
 have hL2:Later w w2:=hL1.trans hL12
 have hr2:w2.heap[w.heap.size+1]?=some (.cells #[.int .i64 0,.int .i64 0,.int .i64 0,.slice none 0 0,.string ⟨#[]⟩,.slice none 0 0,.int .i64 0,.slice none 0 0] 64 (0,0)):=by rw[hw2,←hz1];exact zrow w1
 have hb2:w2.heap[w.heap.size]?=some (.cells #[.string f.1,.slice fa f.2.length fc] 27 (0,0)):=(hL12.block (by omega)).trans (by rw[hw1];exact heap_alloc_new w _)
 have hD2:=hD.below hL2.below
 have hf2:FactV w2 (.agg #[.string f.1,.slice fa f.2.length fc]) f:=⟨_,rfl,hfs.later hL2⟩
 obtain⟨⟨ta,tc,rfl⟩,⟨ra,rc,rfl⟩,⟨xka,xkc,rfl⟩,⟨xna,xnc,rfl⟩,⟨xsa,xsc,rfl⟩⟩:=hD.slices
 have HC:=hide (wrong (.agg #[.string f.1,.slice fa f.2.length fc]) f w2 hf2)
 have HX0:Hid (tellP d f=if wrongF f≠0 then(d,ansE (wrongF f)) else if 200<(setF (d.told++[f])).length then(d,ansE 5) else({d with told:=setF (d.told++[f])},ansN (setF (d.told++[f])).length)):=(rfl:_=_)
 have HTl:Hid (d.told.length≤1000):=hD.told.1
 have HW1:=hide hw1
 have HW2:=hide hw2
 have HL2:=hide hL2
 have HR:=hide hr2
 have HD:=hide hD
 have HB:=hide hB
 have HB2:=hide hb2
 have HD2:=hide hD2
 have HF2:=hide hf2
 obtain⟨b0,b1,_,_,_⟩:=row2 hb2
 have b1':w2.cell? ⟨w.heap.size,0+1,none⟩=some (.slice fa f.2.length fc):=b1
 clear hw1 hw2 hL1 hL12 hL2 hr2 hb2 hD hB hD2 hf2 hfs
 generalize wrongF f=we at*
 go_enter Tryz.func133,Tryz.ntmps133
 go_wp2_with (first|(rw[←HW1.out])|(rw[←HW2.out])|fail)
 refine HC.out.mono ?_
 rintro e w3 ⟨rfl,hL3⟩
 have hz3:=hL3.size
 have HBw:Hid (Below w.heap.size w w3):=(HL2.out.trans hL3).below
 have HRz0:Hid (w3.heap[w.heap.size+1]?=_):=(hL3.block (by omega)).trans HR.out
 have hb3:=(hL3.block (by omega)).trans HB2.out
 clear b0 b1 b1' HC HW1 HW2
 by_cases h0:we=0
 ·subst h0
  have HX1:Hid (tellP d f=if 200<(setF (d.told++[f])).length then(d,ansE 5) else({d with told:=setF (d.told++[f])},ansN (setF (d.told++[f])).length)):=by show _=_;rw[HX0.out];simp
  have hD3:=HD2.out.below hL3.below
  have HCe:Hid (∀w',Later w3 w'→(w'.heap[p]?=some (.cells #[.slice ta d.told.length tc,.slice ra d.rules.length rc,.bool d.running,.slice xka d.run.known.length xkc,.slice xna d.run.fresh.length xnc,.int .i64 d.run.level,.int .i64 d.run.rounds,.bool d.run.done,.slice xsa d.saved.length xsc] 140 (0,0))∧w'.heap[w.heap.size]?=some (.cells #[.string f.1,.slice fa f.2.length fc] 27 (0,0)))):=fun w' h=>⟨(h.block (by omega)).trans hD3.row,(h.block (by omega)).trans hb3⟩
  have HT3:=hide (hD3.told.facts)
  obtain⟨fs3,e3,hfs3⟩:=HF2.out
  simp only[Value.agg.injEq,Array.mk.injEq,List.cons.injEq,true_and,and_true] at e3
  subst e3
  have HF3:=hide (hfs3.later hL3)
  have HL3:=hide hL3
  clear HX0 hD3 hb3 hfs3 hL3 HB2 HD2 HF2
  go_wp2
  refine wp_region_held_drew (S:=fun w'=>Later w3 w') (by kernel_rfl) (Later.refl w3).drew (fun hHeld=> ?_)
  refine take_yes (i:=0) (d:=some 13) (v:= ?_) rfl rfl hHeld ?_ ?_;rotate_left;focus intro w hSw;(try dsimp only at hSw);obtain⟨s1,s2⟩:=HCe.out _ hSw;obtain⟨⟨c0,c1,c2,c3,c4,c5,c6,c7,c8⟩,_,_⟩:=row9 s1;obtain⟨b0,b1,_,_,_⟩:=row2 s2;have b1':w.cell? ⟨_,0+1,none⟩=some (.slice fa f.2.length fc):=b1;go_simp;try with_reducible rfl
  simp only[aput,aset,aze,asu]
  refine take_yes (i:=1) (d:=some 14) (v:= ?_) rfl rfl hHeld ?_ ?_;rotate_left;focus intro w hSw;(try dsimp only at hSw);obtain⟨s1,s2⟩:=HCe.out _ hSw;obtain⟨⟨c0,c1,c2,c3,c4,c5,c6,c7,c8⟩,_,_⟩:=row9 s1;obtain⟨b0,b1,_,_,_⟩:=row2 s2;have b1':w.cell? ⟨_,0+1,none⟩=some (.slice fa f.2.length fc):=b1;go_simp;try with_reducible rfl
  simp only[aput,aset,aze,asu]
  refine take_yes (i:=2) (d:=some 15) (v:= ?_) rfl rfl hHeld ?_ ?_;rotate_left;focus intro w hSw;(try dsimp only at hSw);obtain⟨s1,s2⟩:=HCe.out _ hSw;obtain⟨⟨c0,c1,c2,c3,c4,c5,c6,c7,c8⟩,_,_⟩:=row9 s1;obtain⟨b0,b1,_,_,_⟩:=row2 s2;have b1':w.cell? ⟨_,0+1,none⟩=some (.slice fa f.2.length fc):=b1;go_simp;try with_reducible rfl
  simp only[aput,aset,aze,asu]
  refine take_yes (i:=3) (d:=some 16) (v:= ?_) rfl rfl hHeld ?_ ?_;rotate_left;focus intro w hSw;(try dsimp only at hSw);obtain⟨s1,s2⟩:=HCe.out _ hSw;obtain⟨⟨c0,c1,c2,c3,c4,c5,c6,c7,c8⟩,_,_⟩:=row9 s1;obtain⟨b0,b1,_,_,_⟩:=row2 s2;have b1':w.cell? ⟨_,0+1,none⟩=some (.slice fa f.2.length fc):=b1;go_simp;try with_reducible rfl
  simp only[aput,aset,aze,asu]
  refine take_yes (i:=4) (d:=some 17) (v:= ?_) rfl rfl hHeld ?_ ?_;rotate_left;focus intro w hSw;(try dsimp only at hSw);obtain⟨s1,s2⟩:=HCe.out _ hSw;obtain⟨⟨c0,c1,c2,c3,c4,c5,c6,c7,c8⟩,_,_⟩:=row9 s1;obtain⟨b0,b1,_,_,_⟩:=row2 s2;have b1':w.cell? ⟨_,0+1,none⟩=some (.slice fa f.2.length fc):=b1;go_simp;try with_reducible rfl
  simp only[aput,aset,aze,asu]
  refine take_yes (i:=5) (d:=some 18) (v:= ?_) rfl rfl hHeld ?_ ?_;rotate_left;focus intro w hSw;(try dsimp only at hSw);obtain⟨s1,s2⟩:=HCe.out _ hSw;obtain⟨⟨c0,c1,c2,c3,c4,c5,c6,c7,c8⟩,_,_⟩:=row9 s1;obtain⟨b0,b1,_,_,_⟩:=row2 s2;have b1':w.cell? ⟨_,0+1,none⟩=some (.slice fa f.2.length fc):=b1;go_simp;try with_reducible rfl
  simp only[aput,aset,aze,asu]
  refine wpAnyH_ready (rs:=[6]) (by kernel_rfl) (by simp) ?_
  refine AllReadyH.cons rfl (fun K' hK=> ?_) AllReadyH.nil
  go_simp
  obtain⟨w4,hw4⟩:∃w4,w4=(w3.alloc (.cells #[.string f.1,.slice fa f.2.length fc] 27)).drew:=⟨_,rfl⟩
  have hL4:Later w3 w4:=by rw[hw4];exact((Later.refl w3).alloc _).drew
  have hr4:w4.heap[w3.heap.size]?=some (.cells #[.string f.1,.slice fa f.2.length fc] 27 (0,0)):=by rw[hw4];exact heap_alloc_new w3 _
  rw[←hw4]
  clear hw4
  refine hK.out _ _ hL4 (fun hHeld=> ?_)
  clear hK K'
  have hF4:Facts w4 (.slice (some ⟨w3.heap.size,0,none⟩) 1 1) [f]:=factOne' hr4 (HF3.out.later hL4)
  have HJ:=hide (joinC (.slice ta d.told.length tc) (.slice (some ⟨w3.heap.size,0,none⟩) 1 1) d.told [f] w4 (HT3.out.later hL4) hF4 (by have:=HTl.out;simp;omega))
  have hz4:=hL4.size
  clear hF4 hr4 HT3 HF3
  refine wpAnyH_ready (rs:=[7]) (by kernel_rfl) (by simp) ?_
  refine AllReadyH.cons rfl (fun K' hK=> ?_) AllReadyH.nil
  go_simp
  refine HJ.out.mono ?_
  rintro e w5 ⟨v5,s5,rfl,hs5,hO5,hL5⟩
  have hs5:=hs5.isF
  subst hs5
  obtain⟨ja,jc,rfl⟩:=hO5.slice
  refine hK.out _ _ (hL4.trans hL5) (fun hHeld=> ?_)
  clear hK K'
  refine take_yes (i:=8) (d:=some 6) (v:= ?_) rfl rfl hHeld ?_ ?_;rotate_left;focus intro w hSw;(try dsimp only at hSw);go_simp;try with_reducible rfl
  simp only[aput,aset,aze,asu]
  clear hHeld
  refine wpAnyH_done (by kernel_rfl) ?_ _
  have hz5:=hL5.size
  have hL35:=hL4.trans hL5
  have HB5:Hid (Below w.heap.size w w5):=(HL2.out.trans (HL3.out.trans hL35)).below
  have HRz5:Hid (w5.heap[w.heap.size+1]?=_):=(hL35.block (by omega)).trans HRz0.out
  have HO5:=hide hO5
  clear hL4 hL5 hL35 hO5 HJ HCe HRz0 HBw HL3 HL2
  generalize setF (d.told++[f])=js at*
  by_cases h2:200<js.length
  ·have HX:Hid (tellP d f=(d,ansE 5)):=by show _=_;rw[HX1.out,if_pos h2]
   have HRz0:=HRz5
   clear HRz5 HX1 HO5
   generalize js.length=jn at*
   have HCr:=hide (refusedC 5 w5)
   unfold zansV at HCr
   go_wp2_with fail
   refine HCr.out.mono ?_
   rintro e w6 ⟨rfl,hBr⟩
   have HRz:Hid (w6.heap[(w.heap.size+1)]?=_):=(hBr.block _ (by omega)).trans HRz0.out
   obtain⟨⟨z0,z1,z2,z3,z4,z5,z6,z7⟩,zfz,zlt⟩:=row8 HRz.out
   have HBn:=hide (below_trans HB5.out hBr HB5.out.size)
   clear hBr HCr
   go_wp2
   have hD2:=(HD.out.mono (B':=fun k=>B k∧k<w.heap.size) fun _ hk hb=>⟨hb,hk⟩).below HBn.out
   have hrow:=put8_row HRz.out (.int .i64 5) (.int .i64 0) (.int .i64 0) (.slice none 0 0) (.string ⟨#[]⟩) (.slice none 0 0) (.int .i64 0) (.slice none 0 0)
   obtain⟨⟨r0,r1,r2,r3,r4,r5,r6,r7⟩,_,_⟩:=row8 hrow
   unfold put8 at r0 r1 r2 r3 r4 r5 r6 r7
   have hTz:=put8_tn w6 (w.heap.size+1) (.int .i64 5) (.int .i64 0) (.int .i64 0) (.slice none 0 0) (.string ⟨#[]⟩) (.slice none 0 0) (.int .i64 0) (.slice none 0 0)
   exact bodyPost_ret (v:=.agg #[.int .i64 5,.int .i64 0,.int .i64 0,.slice none 0 0,.string ⟨#[]⟩,.slice none 0 0,.int .i64 0,.slice none 0 0]) (by simp[results,Tryz.results133,go_sem,r0,r1,r2,r3,r4,r5,r6,r7]) rfl
    ⟨_,rfl,by rw[HX.out];exact DoneV.lay (R:=(w.heap.size+1)) (AnsV.plain _ _ _ _ _) (hD2.mono fun k _ hb=>⟨Or.inl hb.1,by omega⟩) (Tn.of_below HBn.out) hTz (by omega) hp⟩
  ·have HX:Hid (tellP d f=({d with told:=js},ansN js.length)):=by show _=_;rw[HX1.out,if_neg h2]
   have hD5:=HD.out.past (m:=w.heap.size+1) HB5.out
   obtain⟨⟨c0,c1,c2,c3,c4,c5,c6,c7,c8⟩,cfz,_⟩:=row9 hD5.row
   obtain⟨w6,hw6⟩:∃w6,w6=w5.setCell ⟨p,0,none⟩ (.slice ja js.length jc):=⟨_,rfl⟩
   have hT6:Tn p w5 w6:=by rw[hw6];exact(Tn.refl p w5).setCell (Or.inl rfl) _
   have hrow6:=set_row (j:=0) hD5.row (.slice ja js.length jc)
   rw[←hw6] at hrow6
   have HRz:Hid (w6.heap[w.heap.size+1]?=_):=(hT6.block _ (by omega) (by omega)).trans HRz5.out
   obtain⟨⟨z0,z1,z2,z3,z4,z5,z6,z7⟩,zfz,zlt⟩:=row8 HRz.out
   have hw:∀k,k<w6.heap.size→((B k∧k<w.heap.size)∨w.heap.size+1<k)→(B k∨w.heap.size≤k)∧k≠w.heap.size+1:=fun k _ hb=>by
    rcases hb with hb|hb
    ·exact⟨Or.inl hb.1,by omega⟩
    ·exact⟨Or.inr (by omega),by omega⟩
   have hkk:∀k,k<w5.heap.size→((B k∧k<w.heap.size)∨w.heap.size+1<k)→w6.heap[k]?=w5.heap[k]?:=fun k hk hb=>hT6.block k hk (fun e=>by
    rcases hb with hb|hb
    ·exact HB.out (e▸hb.1)
    ·omega)
   have hsl:FactsB (fun k=>(B k∧k<w.heap.size)∨w.heap.size+1<k) w5 (.slice ja js.length jc) js:=HO5.out.past (by omega) (by omega)
   have HD3:Hid (DeskW p (fun k=>(B k∨w.heap.size≤k)∧k≠w.heap.size+1) w6 {d with told:=js} (.slice ja js.length jc) _ _ _ _):=⟨hrow6,(hsl.kept hT6.size hkk).mono hw,Kind.sl_mono (Kind.sl_kept hD5.rules hT6.size hkk) hw,(hD5.known.kept hT6.size hkk).mono hw,(hD5.fresh.kept hT6.size hkk).mono hw,Kind.sl_mono (Kind.sl_kept hD5.saved hT6.size hkk) hw⟩
   have HT3:Hid (Tn p w w6):=(Tn.of_below HB5.out).trans hT6
   have HW6:=hide hw6
   clear hD5 hrow6 hw hkk hsl hT6 hw6 HRz5 HX1 HO5
   generalize js.length=jn at*
   go_wp2_with (rw[←HW6.out])
   have hrow:=put8_row HRz.out (.int .i64 0) (.int .i64 0) (.int .i64 jn) (.slice none 0 0) (.string ⟨#[]⟩) (.slice none 0 0) (.int .i64 0) (.slice none 0 0)
   obtain⟨⟨r0,r1,r2,r3,r4,r5,r6,r7⟩,_,_⟩:=row8 hrow
   unfold put8 at r0 r1 r2 r3 r4 r5 r6 r7
   have hTz:=put8_tn w6 (w.heap.size+1) (.int .i64 0) (.int .i64 0) (.int .i64 jn) (.slice none 0 0) (.string ⟨#[]⟩) (.slice none 0 0) (.int .i64 0) (.slice none 0 0)
   exact bodyPost_ret (v:=.agg #[.int .i64 0,.int .i64 0,.int .i64 jn,.slice none 0 0,.string ⟨#[]⟩,.slice none 0 0,.int .i64 0,.slice none 0 0]) (by simp[results,Tryz.results133,go_sem,r0,r1,r2,r3,r4,r5,r6,r7]) rfl
    ⟨_,rfl,by rw[HX.out];exact DoneV.lay (R:=w.heap.size+1) (AnsV.plain _ _ _ _ _) HD3.out HT3.out hTz (by omega) hp⟩
 ·have HX:Hid (tellP d f=(d,ansE we)):=by show _=_;rw[HX0.out,if_pos h0]
  have hne:(we != 0)=true:=by simpa using h0
  clear h0 HX0 hL3 hb3 HD2 HF2 HB2
  have HCr:=hide (refusedC we w3)
  unfold zansV at HCr
  go_wp2_with fail
  refine HCr.out.mono ?_
  rintro e w4 ⟨rfl,hBr⟩
  have HRz:Hid (w4.heap[(w.heap.size+1)]?=_):=(hBr.block _ (by omega)).trans HRz0.out
  obtain⟨⟨z0,z1,z2,z3,z4,z5,z6,z7⟩,zfz,zlt⟩:=row8 HRz.out
  have HBn:=hide (below_trans HBw.out hBr HBw.out.size)
  clear hBr HCr
  go_wp2
  have hD2:=(HD.out.mono (B':=fun k=>B k∧k<w.heap.size) fun _ hk hb=>⟨hb,hk⟩).below HBn.out
  have hrow:=put8_row HRz.out (.int .i64 we) (.int .i64 0) (.int .i64 0) (.slice none 0 0) (.string ⟨#[]⟩) (.slice none 0 0) (.int .i64 0) (.slice none 0 0)
  obtain⟨⟨r0,r1,r2,r3,r4,r5,r6,r7⟩,_,_⟩:=row8 hrow
  unfold put8 at r0 r1 r2 r3 r4 r5 r6 r7
  have hTz:=put8_tn w4 (w.heap.size+1) (.int .i64 we) (.int .i64 0) (.int .i64 0) (.slice none 0 0) (.string ⟨#[]⟩) (.slice none 0 0) (.int .i64 0) (.slice none 0 0)
  exact bodyPost_ret (v:=.agg #[.int .i64 we,.int .i64 0,.int .i64 0,.slice none 0 0,.string ⟨#[]⟩,.slice none 0 0,.int .i64 0,.slice none 0 0]) (by simp[results,Tryz.results133,go_sem,r0,r1,r2,r3,r4,r5,r6,r7]) rfl
   ⟨_,rfl,by rw[HX.out];exact DoneV.lay (R:=(w.heap.size+1)) (AnsV.plain _ _ _ _ _) (hD2.mono fun k _ hb=>⟨Or.inl hb.1,by omega⟩) (Tn.of_below HBn.out) hTz (by omega) hp⟩
end Go.Proofs.YtafmbokfkbccaaaGreatDoor
