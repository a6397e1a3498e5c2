/-
  A division's greatest term is taken by one.
-/
import Derived.Test.YtelkehjdfcoeiaaGreatNay
set_option maxHeartbeats 8000000
set_option maxRecDepth 100000
namespace Go.Proofs.YtelkehjdfcoeiaaGreat
open Go.RowKit Go.Deep Go.Joins Go.Maps
set_option linter.unusedVariables false
abbrev C6 (A B C:Nat) (x y:Int) (m:M) (u:World):Prop:=u.cell? ⟨A,0,none⟩=some (.int .i64 x)∧u.cell? ⟨B,0,none⟩=some (.int .i64 y)∧u.cell? ⟨C,0,none⟩=some (.int .i64 m.x)∧u.cell? ⟨C,1,none⟩=some (.int .i64 m.y)∧u.cell? ⟨C,2,none⟩=some (.int .i64 m.d)∧u.cell? ⟨C,3,none⟩=some (.int .i64 m.e)
theorem C6.below {A B C:Nat} {x y:Int} {m:M} {u u':World} (h:C6 A B C x y m u) (hb:Below u.heap.size u u'):C6 A B C x y m u':=
 ⟨(hb.cell (p:=⟨A,0,none⟩) (cQ u _ h.1)).trans h.1,(hb.cell (p:=⟨B,0,none⟩) (cQ u _ h.2.1)).trans h.2.1,(hb.cell (p:=⟨C,0,none⟩) (cQ u _ h.2.2.1)).trans h.2.2.1,(hb.cell (p:=⟨C,1,none⟩) (cQ u _ h.2.2.2.1)).trans h.2.2.2.1,(hb.cell (p:=⟨C,2,none⟩) (cQ u _ h.2.2.2.2.1)).trans h.2.2.2.2.1,(hb.cell (p:=⟨C,3,none⟩) (cQ u _ h.2.2.2.2.2)).trans h.2.2.2.2.2⟩
abbrev D3 (A B o:Nat) (v1 v2 v3:Value) (u:World):Prop:=u.cell? ⟨A,3,none⟩=some v1∧u.cell? ⟨A,1,none⟩=some v2∧u.cell? ⟨B,o,none⟩=some v3
theorem D3.below {A B o:Nat} {v1 v2 v3:Value} {u u':World} (h:D3 A B o v1 v2 v3 u) (hb:Below u.heap.size u u'):D3 A B o v1 v2 v3 u':=
 ⟨(hb.cell (p:=⟨A,3,none⟩) (cQ u _ h.1)).trans h.1,(hb.cell (p:=⟨A,1,none⟩) (cQ u _ h.2.1)).trans h.2.1,(hb.cell (p:=⟨B,o,none⟩) (cQ u _ h.2.2)).trans h.2.2⟩
theorem D3.turn {A B o:Nat} {v1 v2 v3:Value} {u u':World} {b n:Nat} {c:M→Int} (h:D3 A B o v1 v2 v3 u) (hs:aV u b n c) (hg:u.grownBy u' (some b)):D3 A B o v1 v2 v3 u':=
 ⟨aQ hs h.1 hg,aQ hs h.2.1 hg,aQ hs h.2.2 hg⟩
theorem PT {t l:T} (ht:t.m.ok=true∧1≤t.c∧t.c≤100) (hl:l.m.ok=true∧1≤l.c∧l.c≤100):eK t l=⟨OJ t.c l.c,(M.over t.m l.m).1⟩:=by unfold eK;rw[IB (by omega) ht.2.2 (by omega) hl.2.2,qY (by omega) hl.2.2]
theorem MR {p Y:List T} (hp:aH p) (hY:aH Y) (m:M):fT 100 (lf Y) (aI p) Y.length m=aI (bY p Y) m:=by rw[jY (tT hY) (fun m=>bD hp m) _ (Nat.le_refl _),(cB hp hY).2 m,kG]
theorem Cc (X:sE) (w:World) (fu u N:Nat) (hN:N≤400+400*u) (S:Dv) (t:T) (k:Nat) (h:kU X w fu u N S) (hok:iS u S) (hu:u<300) (hl:aW X.n X.ln X.f=true) (h0:S.p.length≠0) (ht:dD X.o S.p=t) (hkn:k<X.n) (hdv:M.dvd (kS X.o X.ln X.f k).m t.m=true):Calls Tryz.prog 140 #[.pointer (some ⟨X.Bd,0,none⟩),.int .i64 (k:Int),.agg #[.int .i64 t.c,.int .i64 t.m.x,.int .i64 t.m.y,.int .i64 t.m.d,.int .i64 t.m.e]] w fun r w'=>dW X w w'∧((∃S',gH X.o X.ln X.f S k=some S'∧r= .returned (.tuple #[])∧kU X w' fu (u+1) (N+400) S')∨(gH X.o X.ln X.f S k=none∧r= .panicked [{v:=dU,recovered:=false}])):=by
 have hg:=iV (o:=X.o) (aD hok.p).2 h0;rw[ht]at hg;have hlg:=sO (o:=X.o) hl hkn
 obtain⟨l,hle⟩:∃l,kS X.o X.ln X.f k=l:=⟨_,rfl⟩
 rw[hle]at hlg hdv;obtain⟨q,hqe⟩:∃q,eK t l=q:=⟨_,rfl⟩
 have hqd:=PT hg hlg;rw[hqe]at hqd;have hqg:=pZ hg hlg hdv
 rw[hqe]at hqg;have HD:Hid (KV X.o X.ln X.f S k=q):=by show KV X.o X.ln X.f S k=q;unfold KV;rw[ht,hle,hqe]
 have hn12:X.n≤12:=(aU hl).1;have hpk:=((aU hl).2 k hkn).2
 have hs0:=h.s0;have hkc:(k:Int)<(X.n:Int):=by omega
 obtain⟨b1,off1,ea,hb1,hc1⟩:=h.ls.2.2.1.resolve_left (by omega);obtain⟨bt,offt,et,hct⟩:=h.tk.2.resolve_left (by omega);obtain⟨bl1,offl,el,hbl,hcl⟩:=h.ld.2.2.resolve_left (by omega);have k2:=h.c2
 have hbd:X.Bd<w.heap.size:=cQ w _ k2;rw[el]at k2;have hov:M.over ⟨t.m.x,t.m.y,t.m.d,t.m.e⟩ ⟨l.m.x,l.m.y,l.m.d,l.m.e⟩=(q.m,true):=by
  rw[hqd];show M.over t.m l.m=((M.over t.m l.m).1,true)
  rw[M.over,if_pos hdv]
 have hqc:OJ t.c l.c=q.c:=by rw[hqd]
 have hpo:∀W:World,Calls Tryz.prog 75 #[.int .i64 q.c,.agg #[.int .i64 q.m.x,.int .i64 q.m.y,.int .i64 q.m.d,.int .i64 q.m.e]] W fun r w'=>∃a c,r= .returned (.slice a 1 c)∧Below W.heap.size W w'∧gX W.heap.size w' a c [q]:=fun W=>by
  refine(QA q.c q.m.x q.m.y q.m.d q.m.e W).mono ?_;have e1:rR q.c ⟨q.m.x,q.m.y,q.m.d,q.m.e⟩=[q]:=by unfold rR;rw[if_pos ⟨hqg.2,hqg.1⟩]
  rw[e1];rintro r w' ⟨v,rfl,hb,ho⟩;obtain⟨a,c,rfl,hout⟩:=aM ho (by simp);exact⟨a,c,rfl,hb,hout⟩
 have HPO:=aA hpo;have HQC:=aA hqc
 clear hqc;have hlcell:nD w bl1 (offl+k*5) l:=by have:=hcl k hkn;rw[zU X.o X.ln X.f X.n k hkn,hle]at this;exact this
 obtain⟨x0,x1,x2,x3,x4⟩:=hlcell;have HH:=aA h
 have HOK:=aA hok;have HGQ:=aA hqg
 have HPK:=aA hpk;have HCT:=aA hct
 have HC1:=aA hc1;have HBA:=aA (aN w (.cells #[.int .i64 t.c,.int .i64 t.m.x,.int .i64 t.m.y,.int .i64 t.m.d,.int .i64 t.m.e] 86) (.cells #[.int .i64 l.c,.int .i64 l.m.x,.int .i64 l.m.y,.int .i64 l.m.d,.int .i64 l.m.e] 86))
 have HCT5:=aA ((C5.box w 86 t).below (aC _ (.cells #[.int .i64 l.c,.int .i64 l.m.x,.int .i64 l.m.y,.int .i64 l.m.d,.int .i64 l.m.e] 86)));have HCL5:=aA (C5.box (w.alloc (.cells #[.int .i64 t.c,.int .i64 t.m.x,.int .i64 t.m.y,.int .i64 t.m.d,.int .i64 t.m.e] 86)) 86 l)
 simp only[World.size_alloc]at HCL5;clear h hok hqg hpk hct hc1 hcl hqd hpo hqe hle hlg hdv;go_enter Tryz.func140,Tryz.ntmps140;go_wp2_with fail;refine(tZ hov _).mono ?_;rintro r w1 ⟨rfl,hb1'⟩;have HB1:=aA (aB HBA.out hb1')
 have HT1:=aA (HCT5.out.below hb1');have HL1:=aA (HCL5.out.below hb1')
 clear hb1' HBA HCT5 HCL5 x0 x1 x2 x3 x4 k2 hov;go_wp2_with fail;have HB2:=aA (HB1.out.alloc HB1.out.size (.cells #[.int .i64 q.m.x,.int .i64 q.m.y,.int .i64 q.m.d,.int .i64 q.m.e] 84))
 have HT2:=aA (HT1.out.below (aC w1 (.cells #[.int .i64 q.m.x,.int .i64 q.m.y,.int .i64 q.m.d,.int .i64 q.m.e] 84)));have HL2:=aA (HL1.out.below (aC w1 (.cells #[.int .i64 q.m.x,.int .i64 q.m.y,.int .i64 q.m.d,.int .i64 q.m.e] 84)))
 have HO2:=aA (M4.box w1 84 q.m.x q.m.y q.m.d q.m.e);clear HB1 HT1 HL1;generalize(w1.alloc (.cells #[.int .i64 q.m.x,.int .i64 q.m.y,.int .i64 q.m.d,.int .i64 q.m.e] 84))=w2 at HB2 HT2 HL2 HO2⊢;have y0:=HT2.out.1
 have z0:=HL2.out.1;obtain⟨o0,o1,o2,o3⟩:=HO2.out;have hS3:C6 w.heap.size (w.heap.size+1) w1.heap.size t.c l.c q.m w2.drew:=⟨y0,z0,o0,o1,o2,o3⟩
 clear y0 z0 o0 o1 o2 o3
 go_region_held3 (fun u=>u.cell? ⟨w.heap.size,0,none⟩=some (.int .i64 t.c)∧u.cell? ⟨w.heap.size+1,0,none⟩=some (.int .i64 l.c)∧u.cell? ⟨w1.heap.size,0,none⟩=some (.int .i64 q.m.x)∧u.cell? ⟨w1.heap.size,1,none⟩=some (.int .i64 q.m.y)∧u.cell? ⟨w1.heap.size,2,none⟩=some (.int .i64 q.m.d)∧u.cell? ⟨w1.heap.size,3,none⟩=some (.int .i64 q.m.e)) (first|with_reducible exact hS3|with_reducible exact C6.below hS3 bb3) (first|(go_at_call 169;refine(Co _ _ _).mono ?_;rw[HQC.out];rintro r wd ⟨rfl,hwd⟩;obtain rfl:=hwd.symm;clear hwd)|(go_at_call 75;refine(HPO.out _).mono ?_;rintro r w3 ⟨qa,qc,rfl,bb3,oo3⟩))
 have HB3:=aA (aB HB2.out.drew bb3);have HW3:=aA (HH.out.below HB3.out)
 have HQ3:=aA oo3.1;have k4:=HW3.out.c4
 rw[et]at k4;have kt:w3.cell? ⟨bt,offt+k,none⟩=some (.map (some (X.bk k))):=(HB3.out.cell (p:=⟨bt,offt+k,none⟩) (cQ w _ (HCT.out k hkn))).trans (HCT.out k hkn)
 clear hS3 bb3 oo3 HB2 HT2 HL2 HO2 HPO;have fq:=fH HGQ.out
 have hq1:∀i,i<1→(lf [q] i).m.ok=true∧0≤(lf [q] i).c∧(lf [q] i).c≤100:=fun i hi=>by
  obtain rfl:i=0:=by omega
  have:=HGQ.out.2;exact⟨HGQ.out.1,by show 0≤q.c;omega,this.2⟩
 have HADD:=aA (oE w3 (X.bk k) u (aI (S.q k)) 1 qa 1 qc (lf [q]) (HW3.out.tq k hkn) HQ3.out ((HW3.out.tq k hkn).ne_rd HQ3.out) (fun i hi=>(hq1 i hi).1) (fun i hi=>(hq1 i hi).2) (by omega) (by omega) (by omega) (HW3.out.tq k hkn).lt);clear hq1;go_wp2_with fail;refine HADD.out.mono ?_;rintro r w4 ⟨rfl,hS4,hg4⟩;have hco:∀m,fT 1 (lf [q]) (aI (S.q k)) 1 m=aI (cG (S.q k) [q]) m:=fun m=>by
  rw[jY (n:=1) (tT fq) (fun m=>bD (HOK.out.q k).1 m) 1 (Nat.le_refl _),(cM (HOK.out.q k).1 fq).2 m,show cD (lf [q]) 1 0 m=aI [q] m from kG m [q]];have hb:=bD fq m
  rw[show(1:Int)*aI [q] m%101=aI [q] m by omega]
 have HW4:=aA (HW3.out.turnTaken (u':=u+1) (Nat.le_succ _) hkn hg4 (hS4.congr (fun m _=>hco m) (fun m=>bD (cM (HOK.out.q k).1 fq).1 m)));have HQ4:=aA (HQ3.out.grownMap (HW3.out.tq k hkn) hg4)
 have HB4:=aA ((dW.of (X:=X) HB3.out).trans (dW.map hg4 (.inr (.inr ⟨k,hkn,rfl⟩))));clear hS4 hg4 hco HADD HQ3 HW3 HB3 k4 kt fq;have HZW:=aA (HW4.out.below (bQ _ w4).drew)
 have HBZ:=aA HB4.out.drew;have hmul:=uO w4.drew qa (X.ad k) 1 qc (X.ln k) (X.cp k) (lf [q]) (X.f k) (HQ4.out.below (bQ _ w4).drew) (HZW.out.ls.2.2.2 k hkn)
 have k3:w4.cell? ⟨X.Bd,3,none⟩=some (.map (some X.br)):=HW4.out.c3;have k1:w4.cell? ⟨X.Bd,1,none⟩=some (.slice (some ⟨b1,off1,none⟩) X.n X.cap):=by rw[←ea];exact HW4.out.c1
 have kc:w4.cell? ⟨b1,off1+k,none⟩=some (.slice (X.ad k) (X.ln k) (X.cp k)):=by
  rcases HW4.out.ls.2.2.1 with hz|⟨b',off',e',_,hc'⟩
  ·omega
  ·rw[ea]at e';cases e';exact hc' k hkn
 have HLO:Hid (X.s0≤w4.drew.heap.size):=HZW.out.s0;have hop:aK 1 (lf [q])=true:=gB HGQ.out
 have ewm:aZ (lf [q]) 1 (X.f k) (X.ln k)=iN (bN (lf [q]) (X.f k) (X.ln k) 1):=if_pos ⟨hop,HPK.out⟩;rw[ewm]at hmul;clear hop ewm;cases hY:bN (lf [q]) (X.f k) (X.ln k) 1 with
 |none=>
  have HN:Hid (gH X.o X.ln X.f S k=none):=by show gH X.o X.ln X.f S k=none;unfold gH;rw[HD.out,hY]
  rw[hY]at hmul;simp only[iN]at hmul;have HMUL:=aA hmul
  clear hmul hY;go_wp2_with fail;refine wp_region_any (by kernel_rfl) ?_
  (try(change wpAny _ _ _ _ _ _ _ (World.drew _)))
  refine wpAny_take (i:=0) (v:=?_) rfl (by kernel_rfl) (by kernel_rfl) (by kernel_rfl) (fun _ _ _ h=>h) (Or.inl ⟨by rfl,?_⟩) ?_;rotate_left
  ·(intro w9;go_simp)<;>with_reducible rfl
  refine wpAny_take (i:=1) (v:=?_) rfl (by kernel_rfl) (by kernel_rfl) (by kernel_rfl) (fun _ _ _ h=>h) (Or.inl ⟨by rfl,?_⟩) ?_;rotate_left
  ·(intro w9;go_simp)<;>with_reducible rfl
  refine wpAny_take (i:=2) (v:=?_) rfl (by kernel_rfl) (by kernel_rfl) (by kernel_rfl) (fun _ _ _ h=>h) (Or.inl ⟨by rfl,?_⟩) ?_;rotate_left
  ·(intro w9;go_simp)<;>with_reducible rfl
  refine wpAny_take (i:=4) (v:=?_) rfl (by kernel_rfl) (by kernel_rfl) (by kernel_rfl) (fun _ _ _ h=>h) (Or.inl ⟨by rfl,?_⟩) ?_;rotate_left
  ·(intro w9;go_simp)<;>with_reducible rfl
  refine wpAny_take (i:=5) (v:=?_) rfl (by kernel_rfl) (by kernel_rfl) (by kernel_rfl) (fun _ _ _ h=>h) (Or.inl ⟨by rfl,?_⟩) ?_;rotate_left
  ·(intro w9;go_simp)<;>with_reducible rfl
  refine wpAny_take (i:=6) (v:=?_) rfl (by kernel_rfl) (by kernel_rfl) (by kernel_rfl) (fun _ _ _ h=>h) (Or.inl ⟨by rfl,?_⟩) ?_;rotate_left
  ·(intro w9;go_simp)<;>with_reducible rfl
  refine wpAny_take (i:=7) (v:=?_) rfl (by kernel_rfl) (by kernel_rfl) (by kernel_rfl) (fun _ _ _ h=>h) (Or.inl ⟨by rfl,?_⟩) ?_;rotate_left
  ·(intro w9;go_simp)<;>with_reducible rfl
  refine wpAny_take (i:=9) (v:=?_) rfl (by kernel_rfl) (by kernel_rfl) (by kernel_rfl) (fun _ _ _ h=>h) (Or.inl ⟨by rfl,?_⟩) ?_;rotate_left
  ·(intro w9;go_simp)<;>with_reducible rfl
  refine wpAny_ready (rs:=[3,8]) (by kernel_rfl) (by simp) ?_;refine AllReady.cons rfl (fun KK hKK=>?_) ?_
  ·go_simp
   (try(refine hKK _ _ ?_;clear hKK KK))
   refine wpAny_ready (rs:=[8]) (by kernel_rfl) (by simp) ?_;refine AllReady.cons rfl (fun KK hKK=>?_) ?_
   ·go_simp
    (try(refine hKK _ _ ?_;clear hKK KK))
    refine wpAny_take (i:=10) (v:=?_) rfl (by kernel_rfl) (by kernel_rfl) (by kernel_rfl) (fun _ _ _ h=>h) (Or.inl ⟨by rfl,?_⟩) ?_;rotate_left
    ·(intro w9;go_simp)<;>with_reducible rfl
    refine wpAny_ready (rs:=[11]) (by kernel_rfl) (by simp) ?_;refine AllReady.cons rfl (fun KK hKK=>?_) ?_
    ·go_simp
     (try(refine hKK _ _ ?_;clear hKK KK))
     refine wpAny_ready (rs:=[12]) (by kernel_rfl) (by simp) ?_;refine AllReady.cons rfl (fun KK hKK=>?_) ?_
     ·go_simp;go_wp2_with (go_at_call 28;refine HMUL.out.mono ?_;rintro e w1 ⟨p1a,p1c,rfl,bb1,oo1⟩;have hs1:=(HZW.out.below bb1).c3)
      (try(refine hKK _ _ ?_;clear hKK KK))
      refine wpAny_take (i:=13) (v:=?_) rfl (by kernel_rfl) (by kernel_rfl) (by kernel_rfl) (fun _ _ _ h=>h) (Or.inl ⟨by rfl,?_⟩) ?_;rotate_left
      ·(intro w9;go_simp)<;>with_reducible rfl
      refine wpAny_take (i:=14) (v:=?_) rfl (by kernel_rfl) (by kernel_rfl) (by kernel_rfl) (fun _ _ _ h=>h) (Or.inl ⟨by rfl,?_⟩) ?_;rotate_left
      ·(intro w9;go_simp)<;>with_reducible rfl
      refine wpAny_ready (rs:=[15]) (by kernel_rfl) (by simp) ?_;refine AllReady.cons rfl (fun KK hKK=>?_) ?_
      ·go_simp;go_wp2_with (go_at_call 142;refine(eC _ _).mono ?_;rintro e wn ⟨rfl,hwn⟩;obtain rfl:=hwn.symm;clear hwn);exact⟨rfl,HBZ.out.trans (dW.of bb1),.inr ⟨HN.out,rfl⟩⟩
      exact AllReady.nil
     exact AllReady.nil
    exact AllReady.nil
   exact AllReady.nil
  refine AllReady.cons rfl (fun KK hKK=>?_) ?_
  ·go_simp
   (try(refine hKK _ _ ?_;clear hKK KK))
   refine wpAny_take (i:=10) (v:=?_) rfl (by kernel_rfl) (by kernel_rfl) (by kernel_rfl) (fun _ _ _ h=>h) (Or.inl ⟨by rfl,?_⟩) ?_;rotate_left
   ·(intro w9;go_simp)<;>with_reducible rfl
   refine wpAny_ready (rs:=[3,11]) (by kernel_rfl) (by simp) ?_;refine AllReady.cons rfl (fun KK hKK=>?_) ?_
   ·go_simp
    (try(refine hKK _ _ ?_;clear hKK KK))
    refine wpAny_ready (rs:=[11]) (by kernel_rfl) (by simp) ?_;refine AllReady.cons rfl (fun KK hKK=>?_) ?_
    ·go_simp
     (try(refine hKK _ _ ?_;clear hKK KK))
     refine wpAny_ready (rs:=[12]) (by kernel_rfl) (by simp) ?_;refine AllReady.cons rfl (fun KK hKK=>?_) ?_
     ·go_simp;go_wp2_with (go_at_call 28;refine HMUL.out.mono ?_;rintro e w1 ⟨p1a,p1c,rfl,bb1,oo1⟩;have hs1:=(HZW.out.below bb1).c3)
      (try(refine hKK _ _ ?_;clear hKK KK))
      refine wpAny_take (i:=13) (v:=?_) rfl (by kernel_rfl) (by kernel_rfl) (by kernel_rfl) (fun _ _ _ h=>h) (Or.inl ⟨by rfl,?_⟩) ?_;rotate_left
      ·(intro w9;go_simp)<;>with_reducible rfl
      refine wpAny_take (i:=14) (v:=?_) rfl (by kernel_rfl) (by kernel_rfl) (by kernel_rfl) (fun _ _ _ h=>h) (Or.inl ⟨by rfl,?_⟩) ?_;rotate_left
      ·(intro w9;go_simp)<;>with_reducible rfl
      refine wpAny_ready (rs:=[15]) (by kernel_rfl) (by simp) ?_;refine AllReady.cons rfl (fun KK hKK=>?_) ?_
      ·go_simp;go_wp2_with (go_at_call 142;refine(eC _ _).mono ?_;rintro e wn ⟨rfl,hwn⟩;obtain rfl:=hwn.symm;clear hwn);exact⟨rfl,HBZ.out.trans (dW.of bb1),.inr ⟨HN.out,rfl⟩⟩
      exact AllReady.nil
     exact AllReady.nil
    exact AllReady.nil
   refine AllReady.cons rfl (fun KK hKK=>?_) ?_
   ·go_simp
    (try(refine hKK _ _ ?_;clear hKK KK))
    refine wpAny_ready (rs:=[3,12]) (by kernel_rfl) (by simp) ?_;refine AllReady.cons rfl (fun KK hKK=>?_) ?_
    ·go_simp
     (try(refine hKK _ _ ?_;clear hKK KK))
     refine wpAny_ready (rs:=[12]) (by kernel_rfl) (by simp) ?_;refine AllReady.cons rfl (fun KK hKK=>?_) ?_
     ·go_simp;go_wp2_with (go_at_call 28;refine HMUL.out.mono ?_;rintro e w1 ⟨p1a,p1c,rfl,bb1,oo1⟩;have hs1:=(HZW.out.below bb1).c3)
      (try(refine hKK _ _ ?_;clear hKK KK))
      refine wpAny_take (i:=13) (v:=?_) rfl (by kernel_rfl) (by kernel_rfl) (by kernel_rfl) (fun _ _ _ h=>h) (Or.inl ⟨by rfl,?_⟩) ?_;rotate_left
      ·(intro w9;go_simp)<;>with_reducible rfl
      refine wpAny_take (i:=14) (v:=?_) rfl (by kernel_rfl) (by kernel_rfl) (by kernel_rfl) (fun _ _ _ h=>h) (Or.inl ⟨by rfl,?_⟩) ?_;rotate_left
      ·(intro w9;go_simp)<;>with_reducible rfl
      refine wpAny_ready (rs:=[15]) (by kernel_rfl) (by simp) ?_;refine AllReady.cons rfl (fun KK hKK=>?_) ?_
      ·go_simp;go_wp2_with (go_at_call 142;refine(eC _ _).mono ?_;rintro e wn ⟨rfl,hwn⟩;obtain rfl:=hwn.symm;clear hwn);exact⟨rfl,HBZ.out.trans (dW.of bb1),.inr ⟨HN.out,rfl⟩⟩
      exact AllReady.nil
     exact AllReady.nil
    refine AllReady.cons rfl (fun KK hKK=>?_) ?_
    ·go_simp;go_wp2_with (go_at_call 28;refine HMUL.out.mono ?_;rintro e w1 ⟨p1a,p1c,rfl,bb1,oo1⟩;have hs1:=(HZW.out.below bb1).c3)
     (try(refine hKK _ _ ?_;clear hKK KK))
     refine wpAny_take (i:=13) (v:=?_) rfl (by kernel_rfl) (by kernel_rfl) (by kernel_rfl) (fun _ _ _ h=>h) (Or.inl ⟨by rfl,?_⟩) ?_;rotate_left
     ·(intro w9;go_simp)<;>with_reducible rfl
     refine wpAny_take (i:=14) (v:=?_) rfl (by kernel_rfl) (by kernel_rfl) (by kernel_rfl) (fun _ _ _ h=>h) (Or.inl ⟨by rfl,?_⟩) ?_;rotate_left
     ·(intro w9;go_simp)<;>with_reducible rfl
     refine wpAny_ready (rs:=[3,15]) (by kernel_rfl) (by simp) ?_;refine AllReady.cons rfl (fun KK hKK=>?_) ?_
     ·go_simp
      (try(refine hKK _ _ ?_;clear hKK KK))
      refine wpAny_ready (rs:=[15]) (by kernel_rfl) (by simp) ?_;refine AllReady.cons rfl (fun KK hKK=>?_) ?_
      ·go_simp;go_wp2_with (go_at_call 142;refine(eC _ _).mono ?_;rintro e wn ⟨rfl,hwn⟩;obtain rfl:=hwn.symm;clear hwn);exact⟨rfl,HBZ.out.trans (dW.of bb1),.inr ⟨HN.out,rfl⟩⟩
      exact AllReady.nil
     refine AllReady.cons rfl (fun KK hKK=>?_) ?_
     ·go_simp;go_wp2_with (go_at_call 142;refine(eC _ _).mono ?_;rintro e wn ⟨rfl,hwn⟩;obtain rfl:=hwn.symm;clear hwn);exact⟨rfl,HBZ.out.trans (dW.of bb1),.inr ⟨HN.out,rfl⟩⟩
     exact AllReady.nil
    exact AllReady.nil
   exact AllReady.nil
  exact AllReady.nil
 |some Y=>
  have kY:=vT HGQ.out HPK.out hY;obtain⟨lY,fY⟩:=aD kY;rw[hY]at hmul;simp only[iN]at hmul;have HMUL:=aA hmul
  have fp:=(aD HOK.out.p).2;have hadd:∀(W:World) (ya:Option Addr) (yc:Nat),kU X W fu (u+1) N ⟨S.p,kN S.q k (cG (S.q k) [q]),S.r⟩→gX w4.drew.heap.size W ya yc Y→Calls Tryz.prog 137 #[.map (some X.br),.int .i64 100,.slice ya Y.length yc] W fun e w'=>e= .returned (.tuple #[])∧aV w' X.br (N+Y.length) (aI (bY S.p Y))∧W.grownBy w' (some X.br):=fun W ya yc hWW hO=>by refine(oE W X.br N (aI S.p) 100 ya Y.length yc (lf Y) hWW.rs hO.1 (hWW.rs.ne_rd hO.1) (fun i hi=>(fY.2 _ (lK hi)).1) (fun i hi=>by have:=fY.2 _ (lK hi);omega) (by omega) (by omega) (by omega) hWW.rs.lt).mono ?_;rintro e w' ⟨rfl,hs,hgg⟩;exact⟨rfl,hs.congr (fun m _=>MR fp fY m) (fun m=>bD (cB fp fY).1 m),hgg⟩
  have HADD:=aA hadd;have HDV:Hid (gH X.o X.ln X.f S k=if(bY S.p Y).length≤400 then some ⟨bY S.p Y,kN S.q k (cG (S.q k) [q]),S.r⟩else none):=by show gH X.o X.ln X.f S k=_;unfold gH;rw[HD.out,hY]
  have HFS:=aA (cB fp fY).1;have hsl:=wL S.p Y
  clear hmul hY hadd kY;go_wp2_with fail;have hS5:D3 X.Bd b1 (off1+k) (.map (some X.br)) (.slice (some ⟨b1,off1,none⟩) X.n X.cap) (.slice (X.ad k) (X.ln k) (X.cp k)) w4.drew:=⟨k3,k1,kc⟩
  clear k3 k1 kc
  go_region_held3 (fun u=>u.cell? ⟨X.Bd,3,none⟩=some (.map (some X.br))∧u.cell? ⟨X.Bd,1,none⟩=some (.slice (some ⟨b1,off1,none⟩) X.n X.cap)∧u.cell? ⟨b1,off1+k,none⟩=some (.slice (X.ad k) (X.ln k) (X.cp k))) (first|with_reducible exact hS5|with_reducible exact D3.below hS5 bb5|with_reducible exact D3.turn (D3.below hS5 bb5) (HZW.out.below bb5).rs hg6) (first
   |(go_at_call 28;refine HMUL.out.mono ?_;rintro e w5 ⟨ya,yc,rfl,bb5,oo5⟩)
   |(go_at_call 142;refine(eZ _ _).mono ?_;rintro e wn ⟨rfl,hwn⟩;obtain rfl:=hwn.symm;clear hwn)
   |(go_at_call 137;refine(HADD.out w5 ya yc (HZW.out.below bb5) oo5).mono ?_;rintro e w6 ⟨rfl,hS6,hg6⟩))
  have HW5:=aA (HZW.out.below bb5);have HW6:=aA (HW5.out.turnRest (N':=N+400) (p:=bY S.p Y) (Nat.le_refl _) hg6 (hS6.more (by omega)))
  have HB6:=aA ((HBZ.out.trans (dW.of bb5)).trans (dW.map hg6 (.inl rfl)));have hlen:=hS6.len HFS.out 3
  have k6:=HW6.out.c3;clear bb5 oo5 hS6 hg6 hS5;by_cases hle:(bY S.p Y).length≤400
  ·have hgt:¬(400:Int)<((bY S.p Y).length:Int):=by omega
   have HDS:=aA (HDV.out.trans (if_pos hle));go_wp2
   go_end0
   exact⟨HB6.out,.inl ⟨_,HDS.out,rfl,HW6.out⟩⟩
  ·have hgt:(400:Int)<((bY S.p Y).length:Int):=by omega
   have HDS:=aA (HDV.out.trans (if_neg hle));go_wp2;exact⟨rfl,HB6.out,.inr ⟨HDS.out,rfl⟩⟩
abbrev E5 (A g:Nat) (v:Value) (m:M) (u:World):Prop:=u.cell? ⟨A,2,none⟩=some v∧u.cell? ⟨g,1,none⟩=some (.int .i64 m.x)∧u.cell? ⟨g,2,none⟩=some (.int .i64 m.y)∧u.cell? ⟨g,3,none⟩=some (.int .i64 m.d)∧u.cell? ⟨g,4,none⟩=some (.int .i64 m.e)
theorem E5.below {A g:Nat} {v:Value} {m:M} {u u':World} (h:E5 A g v m u) (hb:Below u.heap.size u u'):E5 A g v m u':=
 ⟨(hb.cell (p:=⟨A,2,none⟩) (cQ u _ h.1)).trans h.1,(hb.cell (p:=⟨g,1,none⟩) (cQ u _ h.2.1)).trans h.2.1,(hb.cell (p:=⟨g,2,none⟩) (cQ u _ h.2.2.1)).trans h.2.2.1,(hb.cell (p:=⟨g,3,none⟩) (cQ u _ h.2.2.2.1)).trans h.2.2.2.1,(hb.cell (p:=⟨g,4,none⟩) (cQ u _ h.2.2.2.2)).trans h.2.2.2.2⟩
theorem vI {p:T→Bool} {f g:Nat→T}:∀{n:Nat},(∀i,i<n→f i=g i)→mP p f n=mP p g n
 |0,_=>rfl
 |n+1,h=>by have ih:=vI (p:=p) (f:=f) (g:=g) (n:=n) (fun i hi=>h i (by omega));unfold mP;rw[ih,h n (by omega)]
theorem kU.moreN {X:sE} {w:World} {fu u N N':Nat} {S:Dv} (h:kU X w fu u N S) (hn:N≤N'):kU X w fu u N' S:=
 {h with rs:=h.rs.more hn}
theorem YR (X:sE) (w:World) (u N:Nat) (S:Dv) (h:kU X w 0 u N S):Calls Tryz.prog 98 #[.pointer (some ⟨X.Bd,0,none⟩)] w fun r w'=>r= .panicked [{v:=dU,recovered:=false}]∧w'=w:=by
 have k6:=h.c6;have hz:((0:Nat):Int)=0:=rfl
 rw[hz]at k6;clear h hz;go_enter Tryz.func98,Tryz.ntmps98;go_wp2;exact⟨rfl,rfl,rfl⟩
theorem Cb (X:sE) (w:World) (fu u N:Nat) (hN:N≤400+400*u) (S:Dv) (h:kU X w (fu+1) u N S) (hrk:X.rk=ZC X.o) (ho:1≤X.o∧X.o≤3) (hok:iS u S) (hu:u<300) (hl:aW X.n X.ln X.f=true) (h0:S.p.length≠0) (hfu:fu<300):Calls Tryz.prog 98 #[.pointer (some ⟨X.Bd,0,none⟩)] w fun r w'=>dW X w w'∧((∃S',cU X.o X.n X.ln X.f S=some S'∧r= .returned (.tuple #[])∧kU X w' fu (u+1) (N+400) S')∨(cU X.o X.n X.ln X.f S=none∧r= .panicked [{v:=dU,recovered:=false}])):=by
 obtain⟨t,ht⟩:∃t,dD X.o S.p=t:=⟨_,rfl⟩
 have k6:=h.c6;have kz:=h.fz
 have hf1:(((fu+1:Nat):Int)==0)=false:=by simp;omega
 have hf2:((fu+1:Nat):Int)-1=(fu:Int):=by omega
 have hff:((fu+1:Nat):Int)≤1000:=by omega
 have hff0:0≤((fu+1:Nat):Int):=by omega
 generalize hx:((fu+1:Nat):Int)=x at k6 hf1 hf2 hff hff0;have HB:=aA h.burn
 have hs0:=h.s0;have hB0:dW X w (w.setCell ⟨X.Bd,6,none⟩ (.int .i64 (fu:Int))):=dW.fuel (gJ _ _ _ _)
 have HB0:=aA hB0;have HOK:=aA hok
 clear h hok hx hB0;go_enter Tryz.func98,Tryz.ntmps98;go_wp2_with fail;generalize(w.setCell ⟨X.Bd,6,none⟩ (.int .i64 (fu:Int)))=w1 at HB HB0⊢;have HWD:=aA (HB.out.below (bQ _ w1).drew)
 have k0:=HB.out.c0;have k3:=HB.out.c3
 have hbd:X.Bd<w1.heap.size:=cQ w1 _ k0;have hgr:∀W:World,kU X W fu u N S→Calls Tryz.prog 138 #[.map (some X.br),.func (.func X.rk) #[] #[]] W fun r w'=>r= .returned (.agg #[.int .i64 t.c,.int .i64 t.m.x,.int .i64 t.m.y,.int .i64 t.m.d,.int .i64 t.m.e])∧Below W.heap.size W w':=fun W hW=>by rw[hrk];exact LD X.o ho W X.br N S.p hW.rs HOK.out.p h0 t ht
 have HGR:=aA hgr;have HDA:=aA ((HB.out.below (aC w1 (.cells #[.int .i64 0,.int .i64 0,.int .i64 0,.int .i64 0,.int .i64 0] 86))).below (bQ _ _).drew)
 have HZA:Hid (∀v:World,Below (w1.alloc (.cells #[.int .i64 0,.int .i64 0,.int .i64 0,.int .i64 0,.int .i64 0] 86)).drew.heap.size (w1.alloc (.cells #[.int .i64 0,.int .i64 0,.int .i64 0,.int .i64 0,.int .i64 0] 86)).drew v→bH v w1.heap.size ⟨0,⟨0,0,0,0⟩⟩):=fun v hv=>((bH.box w1 86 ⟨0,⟨0,0,0,0⟩⟩).below (bQ _ _).drew).below hv;clear hgr k6 kz hf1 hf2 hrk;refine Code.wp_mono (Q:=NoPanic fun e a v=>e=Exit.normal∧∃g:Nat,a={tmps:=#[.pointer (some ⟨X.Bd,0,none⟩),undef,.pointer (some ⟨g,0,none⟩),undef,.pointer (some ⟨X.Bd,0,none⟩),.pointer (some ⟨X.Bd,0,none⟩),.pointer (some ⟨X.Bd,6,none⟩),.int .i64 x,.bool false,undef,undef,.pointer (some ⟨X.Bd,0,none⟩),.pointer (some ⟨X.Bd,0,none⟩),.pointer (some ⟨X.Bd,6,none⟩),.int .i64 x,.int .i64 (fu:Int),.pointer (some ⟨X.Bd,0,none⟩),.pointer (some ⟨X.Bd,6,none⟩),.pointer (some ⟨X.Bd,0,none⟩),.pointer (some ⟨X.Bd,0,none⟩),.pointer (some ⟨X.Bd,3,none⟩),.map (some X.br),.pointer (some ⟨X.Bd,0,none⟩),.pointer (some ⟨X.Bd,0,none⟩),.pointer (some ⟨X.Bd,0,none⟩),.func (.func X.rk) #[] #[],.agg #[.int .i64 t.c,.int .i64 t.m.x,.int .i64 t.m.y,.int .i64 t.m.d,.int .i64 t.m.e],undef,undef,undef,undef,undef,undef,undef,undef,undef,undef,undef,undef,undef,undef,undef,undef],defers:=[]}∧C5 v g t∧kU X v fu u N S∧dW X w v) ?_ ?_;rotate_left
 ·go_region_with (go_at_call 138;refine(HGR.out _ ?_).mono ?_;(first|with_reducible exact HWD.out|with_reducible exact HDA.out);rintro r w4 ⟨rfl,hb4⟩;(try(have hz4:=HZA.out _ hb4;obtain⟨⟨z0,z1,z2,z3,z4⟩,zf⟩:=hz4));(have HB4:Hid (Below w1.heap.size w1 w4):=by first|exact aB (bQ _ w1).drew hb4|exact aB (aC w1 (.cells #[.int .i64 0,.int .i64 0,.int .i64 0,.int .i64 0,.int .i64 0] 86)).drew hb4);clear hb4)
  all_goals
   first
   |exact NoPanic.normal ⟨rfl,_,rfl,⟨by go_simp,by go_simp,by go_simp,by go_simp,by go_simp⟩,HB.out.below (bC HB4.out (Nat.le_refl _) _ _ _ _ _),HB0.out.trans (dW.of (bC HB4.out (Nat.le_refl _) _ _ _ _ _))⟩
   |exact NoPanic.normal ⟨rfl,_,rfl,C5.box w4 86 t,HB.out.below (HB4.out.alloc HB4.out.size _),HB0.out.trans (dW.of (HB4.out.alloc HB4.out.size _))⟩
 ·intro e5 a5 w5 hq5;obtain⟨rfl,g,rfl,hc5,hW5,hB5⟩:=NoPanic.imp _ _ _ hq5;have HW5:=aA hW5
  have HB5:=aA hB5;have HC5:=aA hc5
  have hgl:=hc5.lt;have HWD5:=aA (hW5.below (bQ _ w5).drew)
  have hS5:E5 X.Bd g (.slice X.al X.n X.cl) t.m w5.drew:=⟨hW5.c2,hc5.2.1,hc5.2.2.1,hc5.2.2.2.1,hc5.2.2.2.2⟩
  have hfst:Calls Tryz.prog 139 #[.slice X.al X.n X.cl,.agg #[.int .i64 t.m.x,.int .i64 t.m.y,.int .i64 t.m.d,.int .i64 t.m.e]] w5.drew fun r w'=>r= .returned (.int .i64 (vA X.o X.n X.ln X.f t.m))∧Below w5.drew.heap.size w5.drew w':=by have:=MJ w5.drew X.al X.n X.cl (lf (nH X.o X.ln X.f X.n)) t.m HWD5.out.ld;rw[show mP (fun s=>M.dvd s.m t.m) (lf (nH X.o X.ln X.f X.n)) X.n=vA X.o X.n X.ln X.f t.m from vI (fun i hi=>zU X.o X.ln X.f X.n i hi)]at this;exact this
  have HFST:=aA hfst;obtain⟨z,hz⟩:∃z,vA X.o X.n X.ln X.f t.m=z:=⟨_,rfl⟩
  rw[hz]at HFST;have HZ:=aA hz
  have HGO:=aA (iV (o:=X.o) (aD HOK.out.p).2 h0);clear hW5 hB5 hc5 hfst hz k0 k3 hbd HWD HDA HZA HGR HB HB0 hq5;go_wp2_with fail
  go_region_held3 (fun u=>u.cell? ⟨X.Bd,2,none⟩=some (.slice X.al X.n X.cl)∧u.cell? ⟨g,1,none⟩=some (.int .i64 t.m.x)∧u.cell? ⟨g,2,none⟩=some (.int .i64 t.m.y)∧u.cell? ⟨g,3,none⟩=some (.int .i64 t.m.d)∧u.cell? ⟨g,4,none⟩=some (.int .i64 t.m.e)) (first|with_reducible exact hS5|with_reducible exact E5.below hS5 b6) (first|(go_at_call 139;refine HFST.out.mono ?_;rintro r w6 ⟨rfl,b6⟩))
  have HW6:=aA (HWD5.out.below b6);have HB6:=aA (HB5.out.drew.trans (dW.of b6))
  obtain⟨y0,y1,y2,y3,y4⟩:=(HC5.out.below (bQ _ w5).drew).below b6;clear hS5 HFST b6 HWD5 HW5 HB5 HC5;by_cases hzz:0≤z
  ·obtain⟨k,hk⟩:∃k:Nat,z=(k:Int):=⟨z.toNat,by omega⟩
   subst hk;have hfk:(vA X.o X.n X.ln X.f t.m).toNat=k:=by rw[HZ.out];simp
   have hd:=jT (o:=X.o) (n:=X.n) (ln:=X.ln) (f:=X.f) (m:=t.m) (by rw[HZ.out];exact hzz);rw[hfk]at hd;have HST:Hid (cU X.o X.n X.ln X.f S=gH X.o X.ln X.f S k):=by show cU X.o X.n X.ln X.f S=_;unfold cU;rw[ht,if_pos (by rw[HZ.out];exact hzz),hfk]
   have HTK:=aA (Cc X w6 fu u N hN S t k HW6.out HOK.out hu hl h0 ht hd.1 hd.2);have hk1:(k:Int)≤1000:=by have:=hd.1;have:=(aU hl).1;omega
   clear hfk hd;go_wp2_with fail;refine HTK.out.mono ?_;rintro r w7 ⟨hb7,hh⟩;have HB7:=aA (HB6.out.trans hb7)
   rcases hh with⟨S',e1,rfl,hW7⟩|⟨e1,rfl⟩
   ·have HW7:=aA hW7;have HE1:=aA e1
    clear hW7 e1 hb7 HTK;go_wp2
    go_end0
    rw[HST.out];exact⟨HB7.out,.inl ⟨S',HE1.out,rfl,HW7.out⟩⟩
   ·have HE1:=aA e1;clear e1 hb7 HTK;go_wp2;rw[HST.out];exact⟨rfl,HB7.out,.inr ⟨HE1.out,rfl⟩⟩
  ·have hzl:z<0:=by omega
   have HST:Hid (cU X.o X.n X.ln X.f S=some (gO X.o S)):=by show cU X.o X.n X.ln X.f S=_;unfold cU;rw[ht,if_neg (by rw[HZ.out];exact hzz)]
   have HLV:=aA (XT X w6 fu u N S t HW6.out HOK.out hu h0 ht);go_wp2_with fail;refine HLV.out.mono ?_;rintro r w7 ⟨rfl,hW7,hb7⟩;have HB7:=aA (HB6.out.trans hb7)
   have HW7:=aA (hW7.moreN (N':=N+400) (by omega));clear hW7 hb7 HLV;go_wp2
   go_end0
   rw[HST.out];exact⟨HB7.out,.inl ⟨_,rfl,rfl,HW7.out⟩⟩
end Go.Proofs.YtelkehjdfcoeiaaGreat
