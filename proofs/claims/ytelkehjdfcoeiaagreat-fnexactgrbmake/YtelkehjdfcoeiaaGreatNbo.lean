/-
  The program's basis on its way: its box, its queue and its rows; one more operator is put behind ((*impl.grbMaking).add).
-/
import Derived.Test.YtelkehjdfcoeiaaGreatNbm
import Derived.Test.YtelkehjdfcoeiaaGreatNbn
set_option maxHeartbeats 8000000
set_option maxRecDepth 100000
namespace Go.Proofs.YtelkehjdfcoeiaaGreat
open Go.RowKit Go.Deep Go.Joins
set_option linter.unusedVariables false
abbrev WU (w:World) (b:Nat) (t:T):Prop:=w.cell? ⟨b,0,none⟩=some (.int .i64 t.c)∧w.cell? ⟨b,1,none⟩=some (.int .i64 t.m.x)∧w.cell? ⟨b,2,none⟩=some (.int .i64 t.m.y)∧w.cell? ⟨b,3,none⟩=some (.int .i64 t.m.d)∧w.cell? ⟨b,4,none⟩=some (.int .i64 t.m.e)
theorem WU.fr {P:Nat→Prop} {w w':World} {b:Nat} {t:T} (h:WU w b t) (hf:Fr P w w') (hp:¬P b):WU w' b t:=hf.c5 (t:=t) h hp
theorem UW (w:World) (Mb:Nat) (v:Value) (ra:Option Addr) (g rc:Nat):∀j u,[Value.slice ra g rc][j]? =some u→((w.setCell ⟨Mb,0,none⟩ v).alloc (.cells #[.slice ra g rc] 24)).cell? ((⟨w.heap.size,0,none⟩:Addr).add j)=some u:=by
 have:=World.news_of_block (heap_alloc_new (w.setCell ⟨Mb,0,none⟩ v) (.cells #[.slice ra g rc] 24))
 rwa[World.size_setCell]at this
def QY (lo Mb:Nat) (lv:Value) (Bq:Nat→Nat) (a e k:Nat):Prop:=k<lo∨k=Mb∨lv.ownBlock=some k∨∃j,a≤j∧j<e∧k=Bq j
theorem nE.congr {w:World} {lo Q z:Nat} {lv:Value} {m:Nat} {kf kf':Nat→T} {B:Nat→Nat} {a e:Nat} (h:nE w lo Q z lv m kf B a e) (he:e≤bA m) (hk:∀i,i<m→kf i=kf' i):nE w lo Q z lv m kf' B a e:=by have hmap:(List.range m).map kf=(List.range m).map kf':=List.map_congr_left fun i hi=>hk i (List.mem_range.1 hi);refine⟨h.cl,h.cf,h.ct,h.fz,by rw[←hmap];exact h.own,h.ap,fun j j1 j2=>?_,h.bk,h.inj,h.hQ⟩;rw[←MC (m:=m) hk (by omega)];exact h.pr j j1 j2
theorem nE.put {w:World} {lo Q z:Nat} {lv:Value} {m:Nat} {kf:Nat→T} {B:Nat→Nat} {a e:Nat} (h:nE w lo Q z lv m kf B a e) {x:Nat} (hx:x≠z∧x≠z+1∧x≠z+2) (v:Value):nE (w.setCell ⟨Q,x,none⟩ v) lo Q z lv m kf B a e:=by have f1:Fr (fun k=>k=Q) w (w.setCell ⟨Q,x,none⟩ v):=(Fr.refl _ w).set (fun _=>rfl);exact⟨(aJ (pE hx.1)).trans h.cl,(aJ (pE hx.2.1)).trans h.cf,h.ct.imp fun v ⟨c1,c2⟩=>⟨(aJ (pE hx.2.2)).trans c1,c2⟩,by simp only[World.frozen?_setCell];exact h.fz,f1.owns h.own (fun g hg q=>h.ap g hg q),h.ap,fun j i1 i2=>(h.pr j i1 i2).fr f1 (h.bk j i1 i2).2.1,h.bk,h.inj,h.hQ⟩
structure Mx (w:World) (Mb:Nat) (tvL tvP:Value) (o:Int) (f:Nat):Prop where
 c0:w.cell? ⟨Mb,0,none⟩=some tvL
 c1:w.cell? ⟨Mb,1,none⟩=some tvP
 c2:w.cell? ⟨Mb,2,none⟩=some (.bool false)
 c3:w.cell? ⟨Mb,3,none⟩=some (.int .i64 o)
 c7:w.cell? ⟨Mb,7,none⟩=some (.int .i64 (f:Int))
 fz:∀j,w.frozen? ⟨Mb,j,none⟩=false
theorem Mx.lt {w:World} {Mb:Nat} {tvL tvP:Value} {o:Int} {f:Nat} (h:Mx w Mb tvL tvP o f):Mb<w.heap.size:=cQ w _ h.c0
theorem Mx.fr {P:Nat→Prop} {w w':World} {Mb:Nat} {tvL tvP:Value} {o:Int} {f:Nat} (h:Mx w Mb tvL tvP o f) (hf:Fr P w w') (hp:¬P Mb):Mx w' Mb tvL tvP o f:=
 ⟨(hf.cell h.lt hp).trans h.c0,(hf.cell h.lt hp).trans h.c1,(hf.cell h.lt hp).trans h.c2,(hf.cell h.lt hp).trans h.c3,(hf.cell h.lt hp).trans h.c7,fun j=>(hf.frozen h.lt hp).trans (h.fz j)⟩
theorem Mx.below {w w':World} {Mb:Nat} {tvL tvP:Value} {o:Int} {f:Nat} (h:Mx w Mb tvL tvP o f) (hb:Below w.heap.size w w'):Mx w' Mb tvL tvP o f:=h.fr (P:=fun _=>False) (aO hb) id
theorem Mx.set0 {w:World} {Mb:Nat} {tvL tvP:Value} {o:Int} {f:Nat} (h:Mx w Mb tvL tvP o f) (v:Value):Mx (w.setCell ⟨Mb,0,none⟩ v) Mb v tvP o f:=⟨gF h.c0,(aJ (pE (by decide))).trans h.c1,(aJ (pE (by decide))).trans h.c2,(aJ (pE (by decide))).trans h.c3,(aJ (pE (by decide))).trans h.c7,fun j=>(World.frozen?_setCell ..).trans (h.fz j)⟩
theorem Mx.set1 {w:World} {Mb:Nat} {tvL tvP:Value} {o:Int} {f:Nat} (h:Mx w Mb tvL tvP o f) (v:Value):Mx (w.setCell ⟨Mb,1,none⟩ v) Mb tvL v o f:=⟨(aJ (pE (by decide))).trans h.c0,gF h.c1,(aJ (pE (by decide))).trans h.c2,(aJ (pE (by decide))).trans h.c3,(aJ (pE (by decide))).trans h.c7,fun j=>(World.frozen?_setCell ..).trans (h.fz j)⟩
theorem Mx.set7 {w:World} {Mb:Nat} {tvL tvP:Value} {o:Int} {f:Nat} (h:Mx w Mb tvL tvP o f) (f':Nat):Mx (w.setCell ⟨Mb,7,none⟩ (.int .i64 (f':Int))) Mb tvL tvP o f':=⟨(aJ (pE (by decide))).trans h.c0,(aJ (pE (by decide))).trans h.c1,(aJ (pE (by decide))).trans h.c2,(aJ (pE (by decide))).trans h.c3,gF h.c7,fun j=>(World.frozen?_setCell ..).trans (h.fz j)⟩
structure MW (w:World) (l0 Mb g:Nat) (o:Int) (f:Nat) (B:Bs) (a:Nat) (tvL tvP lv:Value) (LS PS:List Value) (Bq:Nat→Nat):Prop where
 bx:Mx w Mb tvL tvP o f
 qu:nE w l0 Mb 4 lv B.m (fun i=>dD o (B.L i)) Bq a (bA B.m)
 bk:jG (QY l0 Mb lv Bq a (bA B.m)) w l0 tvL tvP g B.m B.L B.m B.P LS PS
 le:a≤bA B.m
 m12:B.m≤12
 lo:l0≤Mb
 ow:wX (NB (QY l0 Mb lv Bq a (bA B.m)) tvL tvP) w l0 B.m g B.L B.P LS PS
theorem MW.below {w w':World} {lo Mb g:Nat} {o:Int} {f:Nat} {B:Bs} {a:Nat} {tvL tvP lv:Value} {LS PS:List Value} {Bq:Nat→Nat} (h:MW w lo Mb g o f B a tvL tvP lv LS PS Bq) (hb:Below w.heap.size w w'):MW w' lo Mb g o f B a tvL tvP lv LS PS Bq:=⟨h.bx.below hb,h.qu.below hb,h.bk.below hb,h.le,h.m12,h.lo,h.ow.fr (Q:=fun _=>False) (aO hb) (fun _ _ q=>q)⟩
theorem MW.ylt {w:World} {lo Mb g:Nat} {o:Int} {f:Nat} {B:Bs} {a:Nat} {tvL tvP lv:Value} {LS PS:List Value} {Bq:Nat→Nat} (h:MW w lo Mb g o f B a tvL tvP lv LS PS Bq) {k:Nat} (hk:QY lo Mb lv Bq a (bA B.m) k):k<w.heap.size:=by
 have h1:=h.bx.lt;have h2:=h.lo
 rcases hk with hk|rfl|hk|⟨j,j1,j2,rfl⟩
 ·omega
 ·exact h1
 ·exact(h.qu.own.lt k hk).2
 ·exact(h.qu.pr j j1 j2).lt
theorem MW.qlo {w:World} {lo Mb g:Nat} {o:Int} {f:Nat} {B:Bs} {a:Nat} {tvL tvP lv:Value} {LS PS:List Value} {Bq:Nat→Nat} (h:MW w lo Mb g o f B a tvL tvP lv LS PS Bq) {k:Nat} (hk:QS Mb lv Bq a (bA B.m) k):lo≤k:=by
 rcases hk with rfl|hk|⟨q1,rfl⟩
 ·exact h.lo
 ·exact(h.qu.own.lt k hk).1
 ·exact(h.qu.bk _ (by omega) (by omega)).1
theorem KS {w w3:World} {lo Mb g:Nat} {o:Int} {f:Nat} {B:Bs} {a:Nat} {tvL tvP lv lv':Value} {LS PS:List Value} {Bq Bq':Nat→Nat} (h:MW w lo Mb g o f B a tvL tvP lv LS PS Bq) (hB:∀j,j<bA B.m→Bq' j=Bq j) (hN:∀j,bA B.m≤j→j<bA (B.m+1)→w.heap.size≤Bq' j) (hlv:∀k,lv'.ownBlock=some k→lv.ownBlock=some k∨w.heap.size≤k) (hf:Fr (QS Mb lv Bq a (bA B.m)) w w3):(jG (QY lo Mb lv' Bq' a (bA (B.m+1))) w3 lo tvL tvP g B.m B.L B.m B.P LS PS)∧(∀k,QS Mb lv Bq a (bA B.m) k→QY lo Mb lv Bq a (bA B.m) k)∧(∀k,k<w.heap.size→QY lo Mb lv' Bq' a (bA (B.m+1)) k→QY lo Mb lv Bq a (bA B.m) k):=by
 have s1:∀k,QS Mb lv Bq a (bA B.m) k→QY lo Mb lv Bq a (bA B.m) k:=fun k hk=>by
  rcases hk with q|q|⟨q1,q2⟩
  ·exact .inr (.inl q)
  ·exact .inr (.inr (.inl q))
  ·exact .inr (.inr (.inr ⟨bA B.m-1,by omega,by omega,q2⟩))
 have s2:∀k,k<w.heap.size→QY lo Mb lv' Bq' a (bA (B.m+1)) k→QY lo Mb lv Bq a (bA B.m) k:=fun k hk q=>by
  rcases q with q|q|q|⟨j,j1,j2,rfl⟩
  ·exact .inl q
  ·exact .inr (.inl q)
  ·rcases hlv k q with q|q
   ·exact .inr (.inr (.inl q))
   ·omega
  ·by_cases e:j<bA B.m
   ·exact .inr (.inr (.inr ⟨j,j1,e,hB j e⟩))
   ·have:=hN j (by omega) j2;omega
 refine⟨?_,s1,s2⟩;have h1:=h.bk.yet (Y':=fun b=>QY lo Mb lv Bq a (bA B.m) b∨QY lo Mb lv' Bq' a (bA (B.m+1)) b) (fun b hb q=>q.elim id (s2 b hb))
 exact(h1.fr hf (fun b q=>.inl (s1 b q))).yet (fun b _ q=>.inr q)
theorem Mx.kx {w w' : World} {lo Mb : Nat} {tvL tvP lv : Value} {o : Int} {f m : Nat} {kf : Nat → T} {B : Nat → Nat} {a e : Nat} (h : Mx w Mb tvL tvP o f) (hk : Kx Mb 4 w w') (hq : nE  w' lo Mb 4 lv m kf B a e) : Mx w' Mb tvL tvP o f :=
  ⟨(hk 0 (by decide) (by decide) (by decide)).1.trans h.c0, (hk 1 (by decide) (by decide) (by decide)).1.trans h.c1, (hk 2 (by decide) (by decide) (by decide)).1.trans h.c2, (hk 3 (by decide) (by decide) (by decide)).1.trans h.c3, (hk 7 (by decide) (by decide) (by decide)).1.trans h.c7, fun j => by
    by_cases e1 : j = 4
    · subst e1; exact hq.fz.1
    · by_cases e2 : j = 5
      · subst e2; exact hq.fz.2.1
      · by_cases e3 : j = 6
        · subst e3; exact hq.fz.2.2
        · exact (hk j e1 e2 e3).2.trans (h.fz j)⟩
structure ZD (w3:World) (l0 Mb g:Nat) (o:Int) (f:Nat) (B:Bs) (r:List T) (a:Nat) (tvL tvP lv:Value) (LS PS:List Value) (Bq:Nat→Nat) (pa:Option Addr) (pc:Nat) (ra:Option Addr) (rc:Nat) (rad:Nat→Option Addr) (rcp:Nat→Nat) (R:Nat→List T):Prop where
 bx:Mx w3 Mb tvL tvP o f
 qu:nE w3 l0 Mb 4 lv (B.m+1) (fun i=>dD o (bK B.L B.m r i)) Bq a (bA (B.m+1))
 bk:jG (QY l0 Mb lv Bq a (bA (B.m+1))) w3 l0 tvL tvP g B.m B.L B.m B.P LS PS
 rr:xC (NB (QY l0 Mb lv Bq a (bA (B.m+1))) tvL tvP) w3 pa pc r
 rs:uI (NB (QY l0 Mb lv Bq a (bA (B.m+1))) tvL tvP) w3 ra g rc rad rcp R
 lo:l0≤Mb
 oc:wY (NB (QY l0 Mb lv Bq a (bA (B.m+1))) tvL tvP) w3 l0 B.m g B.L B.P LS PS ra rc (jI pa rad) (jI pc rcp) (jI r R)
theorem ZD.ylt {w3:World} {lo Mb g:Nat} {o:Int} {f:Nat} {B:Bs} {r:List T} {a:Nat} {tvL tvP lv:Value} {LS PS:List Value} {Bq:Nat→Nat} {pa:Option Addr} {pc:Nat} {ra:Option Addr} {rc:Nat} {rad:Nat→Option Addr} {rcp:Nat→Nat} {R:Nat→List T} (h:ZD w3 lo Mb g o f B r a tvL tvP lv LS PS Bq pa pc ra rc rad rcp R):∀k,QY lo Mb lv Bq a (bA (B.m+1)) k→k<w3.heap.size:=fun k hk=>by
 have l1:=h.bx.lt;have l2:=h.lo
 rcases hk with hk|rfl|hk|⟨j,j1,j2,rfl⟩
 ·omega
 ·exact h.bx.lt
 ·exact(h.qu.own.lt k hk).2
 ·exact(h.qu.pr j j1 j2).lt
structure Cl (w5:World) (l0 Mb g:Nat) (o:Int) (f:Nat) (B:Bs) (r:List T) (a:Nat) (tvL tvP lv:Value) (LS PS:List Value) (Bq:Nat→Nat) (ra:Option Addr) (rc:Nat) (rad:Nat→Option Addr) (rcp:Nat→Nat) (R:Nat→List T):Prop where
 bx:Mx w5 Mb tvL tvP o f
 qu:nE w5 l0 Mb 4 lv (B.m+1) (fun i=>dD o (bK B.L B.m r i)) Bq a (bA (B.m+1))
 bk:jG (QY l0 Mb lv Bq a (bA (B.m+1))) w5 l0 tvL tvP g (B.m+1) (bK B.L B.m r) B.m B.P LS PS
 rs:uI (NB (QY l0 Mb lv Bq a (bA (B.m+1))) tvL tvP) w5 ra g rc rad rcp R
 lo:l0≤Mb
 oc:∃pa pc,LS[B.m]? =some (.slice pa r.length pc)∧wY (NB (QY l0 Mb lv Bq a (bA (B.m+1))) tvL tvP) w5 l0 B.m g (bK B.L B.m r) B.P LS PS ra rc (jI pa rad) (jI pc rcp) (jI r R)
theorem nE.own_fr {w w':World} {lo Mb:Nat} {lv:Value} {m:Nat} {kf:Nat→T} {Bq:Nat→Nat} {a e:Nat} (h:nE w lo Mb 4 lv m kf Bq a e) {v:Value} (hf:Fr (fun k=>v.ownBlock=some k) w w') (hn:∀k,v.ownBlock=some k→¬QY lo Mb lv Bq a e k):nE w' lo Mb 4 lv m kf Bq a e:=
 h.fr hf (fun q=>hn _ q (.inr (.inl rfl))) (fun g hg q=>hn _ q (.inr (.inr (.inl hg)))) (fun j j1 j2 q=>hn _ q (.inr (.inr (.inr ⟨j,j1,j2,rfl⟩))))
theorem ZD.next  {w3 w5 : World} {lo Mb g : Nat} {o : Int} {f : Nat} {B : Bs} {r : List T} {a : Nat} {tvL tvP lv : Value} {LS PS : List Value} {Bq : Nat → Nat} {pa : Option Addr} {pc : Nat} {ra : Option Addr} {rc : Nat} {rad : Nat → Option Addr} {rcp : Nat → Nat} {R : Nat → List T} (h : ZD  w3 lo Mb g o f B r a tvL tvP lv LS PS Bq pa pc ra rc rad rcp R) {g1 cap1 : Nat}
    (ho : w5.ownsRow lo 41 1 (.slice (some ⟨g1, 0, none⟩) (B.m + 1) cap1) (B.m + 1) (LS ++ [.slice pa r.length pc])) (hg : (w3.alloc (.cells #[.slice pa r.length pc] 41)).grownBy w5 tvL.ownBlock) (ha : tvL.ownBlock = some g1 ∨ g1 = (w3.alloc (.cells #[.slice pa r.length pc] 41)).heap.size) :
    Mx w5 Mb tvL tvP o f ∧ Cl  (w5.setCell ⟨Mb, 0, none⟩ (.slice (some ⟨g1, 0, none⟩) (B.m + 1) cap1)) lo Mb g o f B r a (.slice (some ⟨g1, 0, none⟩) (B.m + 1) cap1) tvP lv (LS ++ [.slice pa r.length pc]) PS Bq ra rc rad rcp R ∧ Fr (fun k => lo ≤ k) w3 (w5.setCell ⟨Mb, 0, none⟩ (.slice (some ⟨g1, 0, none⟩) (B.m + 1) cap1)) := by
  have f5 : Fr (fun k => tvL.ownBlock = some k) w3 w5 := ((Fr.refl _ w3).next (aC      w3 _)).grown hg (fun k e _ => e)
  have nL : ∀ k, tvL.ownBlock = some k → ¬ QY lo Mb lv Bq a (bA  (B.m + 1)) k := fun k e => (h.bk.nL k e).2
  have x5 := h.bx.fr f5 (fun q => nL _ q (.inr (.inl rfl)))
  have k5 := h.bk.appL h.ylt h.rr hg ho ha
  have q5 := h.qu.own_fr f5 nL
  have sY : Fr (QY lo Mb lv Bq a (bA  (B.m + 1))) w5 (w5.setCell ⟨Mb, 0, none⟩ (.slice (some ⟨g1, 0, none⟩) (B.m + 1) cap1)) := (Fr.refl _ w5).set (fun _ => .inr (.inl rfl))
  have hg1 : tvL.ownBlock = some g1 ∨ g1 = w3.heap.size + 1 := ha.imp id (fun e => by rw [e]; simp)
  have rs5 : uI  (NB (QY lo Mb lv Bq a (bA  (B.m + 1))) (.slice (some ⟨g1, 0, none⟩) (B.m + 1) cap1) tvP) (w5.setCell ⟨Mb, 0, none⟩ (.slice (some ⟨g1, 0, none⟩) (B.m + 1) cap1)) ra g rc rad rcp R :=
    (((h.rs.mono (N' := fun b => NB (QY lo Mb lv Bq a (bA  (B.m + 1))) tvL tvP b ∧ b < w3.heap.size) (fun b hb nb => ⟨nb, hb⟩)).fr f5 (fun b nb q => nb.1.1 q)).fr sY (fun b nb q => nb.1.2.2 q)).mono (fun b _ nb => ⟨fun q => by
      have e : g1 = b := by simpa [Value.ownBlock] using q
      rcases hg1 with q' | q'
      · exact nb.1.1 (by rw [q', e])
      · have := nb.2; omega, nb.1.2.1, nb.1.2.2⟩)
  have oc5 : wY  (NB (QY lo Mb lv Bq a (bA  (B.m + 1))) (.slice (some ⟨g1, 0, none⟩) (B.m + 1) cap1) tvP) (w5.setCell ⟨Mb, 0, none⟩ (.slice (some ⟨g1, 0, none⟩) (B.m + 1) cap1)) lo B.m g B.L B.P LS PS ra rc (jI  pa rad) (jI  pc rcp) (jI  r R) :=
    (((h.oc.mono (N' := fun b => NB (QY lo Mb lv Bq a (bA  (B.m + 1))) tvL tvP b ∧ b < w3.heap.size) (fun b hb nb => ⟨nb, hb⟩)).fr f5 (fun b nb q => nb.1.1 q)).fr sY (fun b nb q => nb.1.2.2 q)).mono (fun b _ nb => ⟨fun q => by
      have e : g1 = b := by simpa [Value.ownBlock] using q
      rcases hg1 with q' | q'
      · exact nb.1.1 (by rw [q', e])
      · have := nb.2; omega, nb.1.2.1, nb.1.2.2⟩)
  exact ⟨x5, ⟨x5.set0 _, q5.put (by decide) _, k5.fr sY (fun b q => q), rs5, h.lo, pa, pc, mN         (rN      h.bk.rL).symm, oc5.putL (rN      h.bk.rL) r _⟩, (f5.mono (fun k _ e => (h.bk.rL.lt k e).1)).set (fun _ => h.lo)⟩
theorem Cl.next  {w5 w7 : World} {lo Mb g : Nat} {o : Int} {f : Nat} {B : Bs} {r : List T} {a : Nat} {tvL tvP lv : Value} {LS PS : List Value} {Bq : Nat → Nat} {ra : Option Addr} {rc : Nat} {rad : Nat → Option Addr} {rcp : Nat → Nat} {R : Nat → List T} (h : Cl  w5 lo Mb g o f B r a tvL tvP lv LS PS Bq ra rc rad rcp R) (hm : B.m ≤ 11) (hle : a ≤ bA  (B.m + 1)) {g1 cap1 : Nat}
    (ho : w7.ownsRow lo 24 1 (.slice (some ⟨g1, 0, none⟩) (B.m + 1) cap1) (B.m + 1) (PS ++ [.slice ra g rc])) (hg : (w5.alloc (.cells #[.slice ra g rc] 24)).grownBy w7 tvP.ownBlock) (ha : tvP.ownBlock = some g1 ∨ g1 = (w5.alloc (.cells #[.slice ra g rc] 24)).heap.size) :
    Mx w7 Mb tvL tvP o f ∧ MW (w7.setCell ⟨Mb, 1, none⟩ (.slice (some ⟨g1, 0, none⟩) (B.m + 1) cap1)) lo Mb g o f (zE   B r R) a tvL (.slice (some ⟨g1, 0, none⟩) (B.m + 1) cap1) lv LS (PS ++ [.slice ra g rc]) Bq ∧ Fr (fun k => lo ≤ k) w5 (w7.setCell ⟨Mb, 1, none⟩ (.slice (some ⟨g1, 0, none⟩) (B.m + 1) cap1)) := by
  have f5 : Fr (fun k => tvP.ownBlock = some k) w5 w7 := ((Fr.refl _ w5).next (aC      w5 _)).grown hg (fun k e _ => e)
  have nP : ∀ k, tvP.ownBlock = some k → ¬ QY lo Mb lv Bq a (bA  (B.m + 1)) k := fun k e => h.bk.nP k e
  have ylt : ∀ k, QY lo Mb lv Bq a (bA  (B.m + 1)) k → k < w5.heap.size := fun k hk => by
    have l1 := h.bx.lt
    have l2 := h.lo
    rcases hk with hk | rfl | hk | ⟨j, j1, j2, rfl⟩
    · omega
    · exact h.bx.lt
    · exact (h.qu.own.lt k hk).2
    · exact (h.qu.pr j j1 j2).lt
  have x5 := h.bx.fr f5 (fun q => nP _ q (.inr (.inl rfl)))
  have k5 := h.bk.appP ylt h.rs hg ho ha
  have q5 := h.qu.own_fr f5 nP
  have sY : Fr (QY lo Mb lv Bq a (bA  (B.m + 1))) w7 (w7.setCell ⟨Mb, 1, none⟩ (.slice (some ⟨g1, 0, none⟩) (B.m + 1) cap1)) := (Fr.refl _ w7).set (fun _ => .inr (.inl rfl))
  have hg1 : tvP.ownBlock = some g1 ∨ g1 = w5.heap.size + 1 := ha.imp id (fun e => by rw [e]; simp)
  obtain ⟨pa, pc, hv, oc0⟩ := h.oc
  have oc7 : wY  (NB (QY lo Mb lv Bq a (bA  (B.m + 1))) tvL (.slice (some ⟨g1, 0, none⟩) (B.m + 1) cap1)) (w7.setCell ⟨Mb, 1, none⟩ (.slice (some ⟨g1, 0, none⟩) (B.m + 1) cap1)) lo B.m g (bK   B.L B.m r) B.P LS PS ra rc (jI  pa rad) (jI  pc rcp) (jI  r R) :=
    (((oc0.mono (N' := fun b => NB (QY lo Mb lv Bq a (bA  (B.m + 1))) tvL tvP b ∧ b < w5.heap.size) (fun b hb nb => ⟨nb, hb⟩)).fr f5 (fun b nb q => nb.1.2.1 q)).fr sY (fun b nb q => nb.1.2.2 q)).mono (fun b _ nb => ⟨nb.1.1, fun q => by
      have e : g1 = b := by simpa [Value.ownBlock] using q
      rcases hg1 with q' | q'
      · exact nb.1.2.1 (by rw [q', e])
      · have := nb.2; omega, nb.1.2.2⟩)
  have eL : bK   B.L B.m r B.m = r := by unfold bK  ; rw [if_pos rfl]
  rw [show jI  r R = jI  (bK   B.L B.m r B.m) R by rw [eL]] at oc7
  have hv7 : LS[B.m]? = some (.slice (jI  pa rad 0) (bK   B.L B.m r B.m).length (jI  pc rcp 0)) := by rw [eL]; exact hv
  have ow7 := NG       oc7 (rN      h.bk.rP) hv7
  exact ⟨x5, ⟨x5.set1 _, q5.put (by decide) _, k5.fr sY (fun b q => q), hle, (show B.m + 1 ≤ 12 by omega), h.lo, ow7⟩, (f5.mono (fun k _ e => (h.bk.rP.lt k e).1)).set (fun _ => h.lo)⟩
theorem WB (w:World) (lo Mb g:Nat) (o:Int) (f:Nat) (B:Bs) (a:Nat) (tvL tvP lv:Value) (LS PS:List Value) (Bq:Nat→Nat) (h:MW w lo Mb g o f B a tvL tvP lv LS PS Bq) (ho:1≤o∧o≤3) (hm:B.m≤11) (pa:Option Addr) (pc:Nat) (r:List T) (hr:xC (NB (QY lo Mb lv Bq a (bA B.m)) tvL tvP) w pa pc r) (hok:cJ r=true) (h0:r.length≠0) (ra:Option Addr) (rc:Nat) (rad:Nat→Option Addr) (rcp:Nat→Nat) (R:Nat→List T) (hR:uI (NB (QY lo Mb lv Bq a (bA B.m)) tvL tvP) w ra g rc rad rcp R) (hO:wY (NB (QY lo Mb lv Bq a (bA B.m)) tvL tvP) w lo B.m g B.L B.P LS PS ra rc (jI pa rad) (jI pc rcp) (jI r R)):Calls Tryz.prog 76 #[.pointer (some ⟨Mb,0,none⟩),.slice pa r.length pc,.slice ra g rc] w fun e w'=>e= .returned (.tuple #[])∧∃tvL' tvP' lv' LS' PS' Bq',MW w' lo Mb g o f (zE B r R) a tvL' tvP' lv' LS' PS' Bq'∧Fr (fun k=>lo≤k) w w':=by
 obtain⟨i0,hi0,hz0,hz1,hz2⟩:=info_parts pR;obtain⟨i1,hi1,hy0,hy1,hy2⟩:=info_parts FO;obtain⟨t,ht⟩:∃t,dD o r=t:=⟨_,rfl⟩
 have hlead:bF o r.length (lf r)=t:=(sP ho hok h0).symm.trans ht;have hcl:=DQ w o pa r.length pc (lf r) hr.1
 rw[hlead]at hcl;have HCL:=aA hcl
 have HT:=aA ht;have HH:=aA h
 have HR:=aA hr;have HRS:=aA hR
 have HOC:=aA hO;have c3:=h.bx.c3
 have hmax:B.m+1≤maxLen:=by unfold maxLen;omega
 have hml:(B.m:Int)≤11:=by omega
 clear h hr hR hO hcl hlead ht;go_enter Tryz.func76,Tryz.ntmps76;go_wp2_with fail;refine HCL.out.mono ?_;rintro e w1 ⟨rfl,b1⟩;clear c3 HCL;have bx:=(aC w1 (.cells #[.int .i64 t.c,.int .i64 t.m.x,.int .i64 t.m.y,.int .i64 t.m.d,.int .i64 t.m.e] 86)).drew
 have b2:=aB b1 bx;have HC5:Hid (C5 (w1.alloc (.cells #[.int .i64 t.c,.int .i64 t.m.x,.int .i64 t.m.y,.int .i64 t.m.d,.int .i64 t.m.e] 86)).drew w1.heap.size t):=(C5.box w1 86 t).below (bQ _ _).drew
 have HB2:=aA b2;have HM2:=aA (HH.out.below b2)
 have HR2:Hid (xC (NB (QY lo Mb lv Bq a (bA B.m)) tvL tvP) (w1.alloc (.cells #[.int .i64 t.c,.int .i64 t.m.x,.int .i64 t.m.y,.int .i64 t.m.d,.int .i64 t.m.e] 86)).drew pa pc r):=HR.out.fr (P:=fun _=>False) (aO b2) (fun _ _ q=>q);have HRS2:Hid (uI (NB (QY lo Mb lv Bq a (bA B.m)) tvL tvP) (w1.alloc (.cells #[.int .i64 t.c,.int .i64 t.m.x,.int .i64 t.m.y,.int .i64 t.m.d,.int .i64 t.m.e] 86)).drew ra g rc rad rcp R):=HRS.out.fr (P:=fun _=>False) (aO b2) (fun _ _ q=>q)
 have HOC2:Hid (wY (NB (QY lo Mb lv Bq a (bA B.m)) tvL tvP) (w1.alloc (.cells #[.int .i64 t.c,.int .i64 t.m.x,.int .i64 t.m.y,.int .i64 t.m.d,.int .i64 t.m.e] 86)).drew lo B.m g B.L B.P LS PS ra rc (jI pa rad) (jI pc rcp) (jI r R)):=HOC.out.fr (Q:=fun _=>False) (aO b2) (fun _ _ q=>q);have hylt:∀k,QY lo Mb lv Bq a (bA B.m) k→k<w1.heap.size:=fun k hk=>iZ (HH.out.ylt hk) b1.size
 have hkf:(fun i=>dD o (bK B.L B.m r i)) B.m=t:=by show dD o (bK B.L B.m r B.m)=t;unfold bK;rw[if_pos rfl];exact HT.out
 have hq2:=HM2.out.qu.congr (kf':=fun i=>dD o (bK B.L B.m r i)) (Nat.le_refl _) (fun i hi=>by show dD o (B.L i)=dD o (bK B.L B.m r i);unfold bK;rw[if_neg (by omega)]);have hlo2:lo≤(w1.alloc (.cells #[.int .i64 t.c,.int .i64 t.m.x,.int .i64 t.m.y,.int .i64 t.m.d,.int .i64 t.m.e] 86)).drew.heap.size:=by have h1:=HM2.out.lo;have h2:=HM2.out.bx.lt;omega
 have HCM:=aA (ZP _ lo Mb 4 lv B.m _ Bq a hq2 HM2.out.le (by omega) hlo2 t hkf);have HYL:=aA hylt
 clear b1 b2 bx hq2 hkf hylt hlo2;go_wp2_with fail;obtain⟨s0,s1,s2,s3,s4⟩:=HC5.out;have hS:WU (w1.alloc (.cells #[.int .i64 t.c,.int .i64 t.m.x,.int .i64 t.m.y,.int .i64 t.m.d,.int .i64 t.m.e] 86)).drew w1.heap.size t:=⟨s0,s1,s2,s3,s4⟩
 clear s0 s1 s2 s3 s4
 go_region_held3 (fun x=>WU x w1.heap.size t) (first|with_reducible exact hS3|with_reducible exact hS) (first|(go_at_call 124;refine HCM.out.mono ?_;rintro e w3 ⟨rfl,lv',Bq',hq3,hB3,hN3,hlv3,hf3,hk3⟩;have hS3:WU w3 w1.heap.size t:=WU.fr hS hf3 (fun q=>by rcases q with q|q|⟨q1,q2⟩;(· have:=HYL.out _ (.inr (.inl q));omega);(· have:=HYL.out _ (.inr (.inr (.inl q)));omega);(· have:=HYL.out _ (.inr (.inr (.inr ⟨bA B.m-1,by omega,by omega,q2⟩)));omega))))
 obtain⟨bk3,sub1,sub2⟩:=KS HM2.out hB3 hN3 hlv3 hf3;have hrr3:xC (NB (QY lo Mb lv' Bq' a (bA (B.m+1))) tvL tvP) w3 pa pc r:=((HR2.out.mono (N':=fun b=>NB (QY lo Mb lv Bq a (bA B.m)) tvL tvP b∧NB (QY lo Mb lv' Bq' a (bA (B.m+1))) tvL tvP b) (fun b hb nb=>⟨nb,nb.1,nb.2.1,fun q=>nb.2.2 (sub2 b hb q)⟩)).fr hf3 (fun b nb q=>nb.1.2.2 (sub1 b q))).mono (fun b _ nb=>nb.2)
 have hrs3:uI (NB (QY lo Mb lv' Bq' a (bA (B.m+1))) tvL tvP) w3 ra g rc rad rcp R:=((HRS2.out.mono (N':=fun b=>NB (QY lo Mb lv Bq a (bA B.m)) tvL tvP b∧NB (QY lo Mb lv' Bq' a (bA (B.m+1))) tvL tvP b) (fun b hb nb=>⟨nb,nb.1,nb.2.1,fun q=>nb.2.2 (sub2 b hb q)⟩)).fr hf3 (fun b nb q=>nb.1.2.2 (sub1 b q))).mono (fun b _ nb=>nb.2);have hoc3:wY (NB (QY lo Mb lv' Bq' a (bA (B.m+1))) tvL tvP) w3 lo B.m g B.L B.P LS PS ra rc (jI pa rad) (jI pc rcp) (jI r R):=((HOC2.out.mono (N':=fun b=>NB (QY lo Mb lv Bq a (bA B.m)) tvL tvP b∧NB (QY lo Mb lv' Bq' a (bA (B.m+1))) tvL tvP b) (fun b hb nb=>⟨nb,nb.1,nb.2.1,fun q=>nb.2.2 (sub2 b hb q)⟩)).fr hf3 (fun b nb q=>nb.1.2.2 (sub1 b q))).mono (fun b _ nb=>nb.2)
 have HA3:Hid (ZD w3 lo Mb g o f B r a tvL tvP lv' LS PS Bq' pa pc ra rc rad rcp R):=⟨HM2.out.bx.kx hk3 hq3,hq3,bk3,hrr3,hrs3,HM2.out.lo,hoc3⟩
 have HF3:Hid (Fr (fun k=>lo≤k) w w3):=(aO HB2.out).trans (hf3.mono (fun k _ q=>HM2.out.qlo q));have hlo3:lo≤w3.heap.size:=by have h1:=HM2.out.lo;have h2:=HA3.out.bx.lt;omega
 have hle3:a≤bA (B.m+1):=gW HM2.out.le (wR (Nat.le_succ _));obtain⟨la,lc,lad,lcp,hla,_⟩:=bk3.readL (by omega);obtain⟨qa,qc,qA,qC,qAD,qCP,hqa,_⟩:=bk3.readP (by omega);subst hla hqa;obtain⟨k0,k1,k2,k3,k7,kz⟩:=HA3.out.bx;have z0:=kz 0
 clear hS hS3 hq3 hB3 hN3 hlv3 hf3 hk3 bk3 sub1 sub2 hrr3 hrs3 hoc3 HCM HM2 HR2 HRS2 HOC2 HOC HH HR HRS k2 k3 k7 kz HC5;go_wp2_with (first|(at_builtin;refine wpList_append_lies _ rfl (.tmp 27) (.tmp 29) 24 rfl lo 41 i0 _ 1 24 Tryz.underlying24 hi0 hz0 hz1 hz2 rfl (by omega) _ B.m LS rfl (HA3.out.bk.rL.alloc _) ⟨w3.heap.size,0,none⟩ 1 1 [.slice pa r.length pc] rfl rfl (World.news_of_block (heap_alloc_new w3 _)) (gQ _ _ _) (by omega) hmax (by omega) (by simp;omega) _ rfl ?_;intro g1 cap1 w5 hown2 hgrow2 hat2 hlt2;have HP5:=aA (HA3.out.next hown2 hgrow2 hat2);obtain⟨e0,e1,e2,e3,e7,ez⟩:=HP5.out.1;have hs5:lo≤w5.heap.size:=(by have h1:=HP5.out.2.1.lo;have h2:=HP5.out.1.lt;omega);have HN5:=aA (UW w5 Mb (.slice (some ⟨g1,0,none⟩) (B.m+1) cap1) ra g rc);clear k0 k1 z0 hown2 hgrow2 hat2 hlt2 e2 e3 e7)|(at_builtin;refine wpList_append_lies _ rfl (.tmp 39) (.tmp 41) 25 rfl lo 24 i1 _ 1 24 Tryz.underlying25 hi1 hy0 hy1 hy2 rfl (by omega) _ B.m PS rfl (HP5.out.2.1.bk.rP.alloc _) ⟨w5.heap.size,0,none⟩ 1 1 [.slice ra g rc] rfl rfl HN5.out (gQ _ _ _) (by omega) hmax (by omega) (by simp;omega) _ rfl ?_;intro g2 cap2 w7 hown3 hgrow3 hat3 hlt3;have HP7:=aA (HP5.out.2.1.next hm hle3 hown3 hgrow3 hat3);obtain⟨f0,f1,f2,f3,f7,fz⟩:=HP7.out.1;clear hown3 hgrow3 hat3 hlt3 e0 e1 ez f2 f3 f7))
 go_end0
 exact⟨rfl,_,_,lv',_,_,Bq',HP7.out.2.1,(HF3.out.trans HP5.out.2.2).trans HP7.out.2.2⟩
abbrev NJ (u:World) (b:Nat) (p:Pr) (lb i k:Nat) (v1 v2:Value):Prop:=
 u.cell? ⟨b,0,none⟩=some (.int .i64 p.t1.c)∧u.cell? ⟨b,1,none⟩=some (.int .i64 p.t1.m.x)∧u.cell? ⟨b,2,none⟩=some (.int .i64 p.t1.m.y)∧u.cell? ⟨b,3,none⟩=some (.int .i64 p.t1.m.d)∧u.cell? ⟨b,4,none⟩=some (.int .i64 p.t1.m.e)∧u.cell? ⟨b,5,none⟩=some (.int .i64 p.t2.c)∧u.cell? ⟨b,6,none⟩=some (.int .i64 p.t2.m.x)∧u.cell? ⟨b,7,none⟩=some (.int .i64 p.t2.m.y)∧u.cell? ⟨b,8,none⟩=some (.int .i64 p.t2.m.d)∧u.cell? ⟨b,9,none⟩=some (.int .i64 p.t2.m.e)∧u.cell? ⟨b,10,none⟩=some (.int .i64 (p.i:Int))∧u.cell? ⟨b,11,none⟩=some (.int .i64 (p.k:Int))∧u.cell? ⟨lb,i,none⟩=some v1∧u.cell? ⟨lb,k,none⟩=some v2
theorem NJ.mk {u:World} {b:Nat} {p:Pr} {nx:Option Addr} {lb i k:Nat} {v1 v2:Value} (h:iF u b p nx) (h1:u.cell? ⟨lb,i,none⟩=some v1) (h2:u.cell? ⟨lb,k,none⟩=some v2):NJ u b p lb i k v1 v2:=⟨h.a0,h.a1,h.a2,h.a3,h.a4,h.b0,h.b1,h.b2,h.b3,h.b4,h.ci,h.ck,h1,h2⟩
theorem NJ.below {u u':World} {b:Nat} {p:Pr} {lb i k:Nat} {v1 v2:Value} (h:NJ u b p lb i k v1 v2) (hb:Below u.heap.size u u'):NJ u' b p lb i k v1 v2:=by
 obtain⟨a0,a1,a2,a3,a4,c0,c1,c2,c3,c4,d0,d1,e0,e1⟩:=h;have l1:=cQ u _ a0
 have l2:=cQ u _ e0;exact⟨(hb.cell (p:=⟨b,0,none⟩) l1).trans a0,(hb.cell (p:=⟨b,1,none⟩) l1).trans a1,(hb.cell (p:=⟨b,2,none⟩) l1).trans a2,(hb.cell (p:=⟨b,3,none⟩) l1).trans a3,(hb.cell (p:=⟨b,4,none⟩) l1).trans a4,(hb.cell (p:=⟨b,5,none⟩) l1).trans c0,(hb.cell (p:=⟨b,6,none⟩) l1).trans c1,(hb.cell (p:=⟨b,7,none⟩) l1).trans c2,(hb.cell (p:=⟨b,8,none⟩) l1).trans c3,(hb.cell (p:=⟨b,9,none⟩) l1).trans c4,(hb.cell (p:=⟨b,10,none⟩) l1).trans d0,(hb.cell (p:=⟨b,11,none⟩) l1).trans d1,(hb.cell (p:=⟨lb,i,none⟩) l2).trans e0,(hb.cell (p:=⟨lb,k,none⟩) l2).trans e1⟩
def Cm (w:World) (n:Nat) (R:Option Dv) (r:Ending) (w':World):Prop:=
 Below w.heap.size w w'∧((∃S qa qc ad cp Rb B la lc mid lo,R=some S∧r= .returned (.tuple #[.slice qa n qc,.slice la S.r.length lc])∧w.heap.size≤lo∧dV lo w' qa n qc ad (fun i=>(S.q i).length) cp (fun i=>lf (S.q i)) Rb B∧gX mid w' la lc S.r∧(n=0∨Rb<mid)∧(∀i,i<n→(S.q i).length≠0→B i<mid)∧lo≤mid)∨(R=none∧r= .panicked [{v:=dU,recovered:=false}]))
def OH (o:Int) (n:Nat) (L:Nat→List T) (p:Pr):Option Dv:=
 match kV p.t1 p.t2 (lf (L p.i)) (L p.i).length (lf (L p.k)) (L p.k).length with
 |(s,true)=>dA o s n (lN L) (fN L)
 |(_,false)=>none
theorem OG (w:World) (b:Nat) (p:Pr) (nx:Option Addr) (hp:iF w b p nx) (o:Int) (a:Option Addr) (n cap:Nat) (ad:Nat→Option Addr) (cp:Nat→Nat) (L:Nat→List T) (h:eH w a n cap ad (lN L) cp (fN L)) (hi:p.i<n) (hk:p.k<n) {R:Option Dv} (hR:OH o n L p=R):Calls Tryz.prog 125 #[.pointer (some ⟨b,0,none⟩),.int .i64 o,.slice a n cap] w (Cm w n R):=by
 have q1:(n:Int)≤140737488351232:=by have:=h.2.1;omega
 have i1:(0:Int)≤(p.i:Int):=by omega
 have i2:(p.i:Int)<(n:Int):=by omega
 have k1:(0:Int)≤(p.k:Int):=by omega
 have k2:(p.k:Int)<(n:Int):=by omega
 have dr:Below w.heap.size w w.drew:=(bQ _ _).drew;rcases h.2.2.1 with h0|⟨lb,off,rfl,hblt,hcl⟩
 ·omega
 obtain⟨A,hA⟩:∃A,L p.i=A:=⟨_,rfl⟩
 obtain⟨C,hC⟩:∃A,L p.k=A:=⟨_,rfl⟩
 have RA:Hid (RL w.drew (ad p.i) (cp p.i) A):=by rw[←hA];exact(h.2.2.2 p.i hi).below dr
 have RC:Hid (RL w.drew (ad p.k) (cp p.k) C):=by rw[←hC];exact(h.2.2.2 p.k hk).below dr
 have hS0:NJ w.drew b p lb (off+p.i) (off+p.k) (.slice (ad p.i) A.length (cp p.i)) (.slice (ad p.k) C.length (cp p.k)):=NJ.mk (hp.below dr) ((dr.cell (p:=⟨lb,off+p.i,none⟩) hblt).trans (by rw[←hA];exact hcl p.i hi)) ((dr.cell (p:=⟨lb,off+p.k,none⟩) hblt).trans (by rw[←hC];exact hcl p.k hk));have HS:=aA hS0
 have HH:=aA (h.below dr);have HB0:=aA dr
 obtain⟨s,sb,hsp⟩:∃s sb,kV p.t1 p.t2 (lf A) A.length (lf C) C.length=(s,sb):=⟨_,_,rfl⟩
 have hc:=ZR w.drew p.t1 p.t2 (ad p.i) (ad p.k) A.length (cp p.i) C.length (cp p.k) (lf A) (lf C) RA.out RC.out;rw[hsp]at hc;have HC:=aA hc
 have hRR:(match ((s,sb):List T×Bool)with|(s,true)=>dA o s n (lN L) (fN L)|(_,false)=>none)=R:=by rw[←hR];unfold OH;rw[hA,hC,hsp]
 have HRR:=aA hRR;have hlbw:lb<w.heap.size:=hblt
 have hbw:b<w.heap.size:=hp.lt;clear hp h hcl hS0 hc hsp hR hRR hA hC dr hblt;cases sb
 ·have hRn:R=none:=HRR.out.symm;subst hRn;go_enter Tryz.func125,Tryz.ntmps125;go_wp2_with fail;have hS:=HS.out
  refine wp_region_held_drew (S:=(fun u=>NJ u b p lb (off+p.i) (off+p.k) (.slice (ad p.i) A.length (cp p.i)) (.slice (ad p.k) C.length (cp p.k)))) (by kernel_rfl) hS (fun hHeld=>?_);clear hS;refine wpAnyH_take (i:=0) (v:=?_) rfl (by kernel_rfl) (by kernel_rfl) (by kernel_rfl) (fun _ _ _ h=>h) (Or.inl ⟨by rfl,?_⟩) (by assumption) ?_;rotate_left
  ·(intro w9 hSw;(try dsimp only at hSw);go_simp)<;>with_reducible rfl
  refine wpAnyH_take (i:=1) (v:=?_) rfl (by kernel_rfl) (by kernel_rfl) (by kernel_rfl) (fun _ _ _ h=>h) (Or.inl ⟨by rfl,?_⟩) (by assumption) ?_;rotate_left
  ·(intro w9 hSw;(try dsimp only at hSw);go_simp)<;>with_reducible rfl
  refine wpAnyH_take (i:=2) (v:=?_) rfl (by kernel_rfl) (by kernel_rfl) (by kernel_rfl) (fun _ _ _ h=>h) (Or.inl ⟨by rfl,?_⟩) (by assumption) ?_;rotate_left
  ·(intro w9 hSw;(try dsimp only at hSw);go_simp)<;>with_reducible rfl
  refine wpAnyH_take (i:=3) (v:=?_) rfl (by kernel_rfl) (by kernel_rfl) (by kernel_rfl) (fun _ _ _ h=>h) (Or.inl ⟨by rfl,?_⟩) (by assumption) ?_;rotate_left
  ·(intro w9 hSw;(try dsimp only at hSw);go_simp)<;>with_reducible rfl
  refine wpAnyH_take (i:=4) (v:=?_) rfl (by kernel_rfl) (by kernel_rfl) (by kernel_rfl) (fun _ _ _ h=>h) (Or.inl ⟨by rfl,?_⟩) (by assumption) ?_;rotate_left
  ·(intro w9 hSw;(try dsimp only at hSw);go_simp)<;>with_reducible rfl
  refine wpAnyH_take (i:=5) (v:=?_) rfl (by kernel_rfl) (by kernel_rfl) (by kernel_rfl) (fun _ _ _ h=>h) (Or.inl ⟨by rfl,?_⟩) (by assumption) ?_;rotate_left
  ·(intro w9 hSw;(try dsimp only at hSw);go_simp)<;>with_reducible rfl
  refine wpAnyH_take (i:=6) (v:=?_) rfl (by kernel_rfl) (by kernel_rfl) (by kernel_rfl) (fun _ _ _ h=>h) (Or.inl ⟨by rfl,?_⟩) (by assumption) ?_;rotate_left
  ·(intro w9 hSw;(try dsimp only at hSw);go_simp)<;>with_reducible rfl
  refine wpAnyH_take (i:=7) (v:=?_) rfl (by kernel_rfl) (by kernel_rfl) (by kernel_rfl) (fun _ _ _ h=>h) (Or.inl ⟨by rfl,?_⟩) (by assumption) ?_;rotate_left
  ·(intro w9 hSw;(try dsimp only at hSw);go_simp)<;>with_reducible rfl
  refine wpAnyH_take (i:=8) (v:=?_) rfl (by kernel_rfl) (by kernel_rfl) (by kernel_rfl) (fun _ _ _ h=>h) (Or.inl ⟨by rfl,?_⟩) (by assumption) ?_;rotate_left
  ·(intro w9 hSw;(try dsimp only at hSw);go_simp)<;>with_reducible rfl
  refine wpAnyH_take (i:=9) (v:=?_) rfl (by kernel_rfl) (by kernel_rfl) (by kernel_rfl) (fun _ _ _ h=>h) (Or.inl ⟨by rfl,?_⟩) (by assumption) ?_;rotate_left
  ·(intro w9 hSw;(try dsimp only at hSw);go_simp)<;>with_reducible rfl
  refine wpAnyH_take (i:=10) (v:=?_) rfl (by kernel_rfl) (by kernel_rfl) (by kernel_rfl) (fun _ _ _ h=>h) (Or.inl ⟨by rfl,?_⟩) (by assumption) ?_;rotate_left
  ·(intro w9 hSw;(try dsimp only at hSw);go_simp)<;>with_reducible rfl
  refine wpAnyH_take (i:=11) (v:=?_) rfl (by kernel_rfl) (by kernel_rfl) (by kernel_rfl) (fun _ _ _ h=>h) (Or.inl ⟨by rfl,?_⟩) (by assumption) ?_;rotate_left
  ·(intro w9 hSw;(try dsimp only at hSw);go_simp)<;>with_reducible rfl
  refine wpAnyH_take (i:=12) (v:=?_) rfl (by kernel_rfl) (by kernel_rfl) (by kernel_rfl) (fun _ _ _ h=>h) (Or.inl ⟨by rfl,?_⟩) (by assumption) ?_;rotate_left
  ·(intro w9 hSw;(try dsimp only at hSw);go_simp)<;>with_reducible rfl
  refine wpAnyH_take (i:=13) (v:=?_) rfl (by kernel_rfl) (by kernel_rfl) (by kernel_rfl) (fun _ _ _ h=>h) (Or.inl ⟨by rfl,?_⟩) (by assumption) ?_;rotate_left
  ·(intro w9 hSw;(try dsimp only at hSw);go_simp)<;>with_reducible rfl
  refine wpAnyH_take (i:=14) (v:=?_) rfl (by kernel_rfl) (by kernel_rfl) (by kernel_rfl) (fun _ _ _ h=>h) (Or.inl ⟨by rfl,?_⟩) (by assumption) ?_;rotate_left
  ·(intro w9 hSw;(try dsimp only at hSw);go_simp)<;>with_reducible rfl
  refine wpAnyH_take (i:=15) (v:=?_) rfl (by kernel_rfl) (by kernel_rfl) (by kernel_rfl) (fun _ _ _ h=>h) (Or.inl ⟨by rfl,?_⟩) (by assumption) ?_;rotate_left
  ·(intro w9 hSw;(try dsimp only at hSw);go_simp)<;>with_reducible rfl
  refine wpAnyH_take (i:=16) (v:=?_) rfl (by kernel_rfl) (by kernel_rfl) (by kernel_rfl) (fun _ _ _ h=>h) (Or.inl ⟨by rfl,?_⟩) (by assumption) ?_;rotate_left
  ·(intro w9 hSw;(try dsimp only at hSw);go_simp)<;>with_reducible rfl
  refine wpAnyH_take (i:=17) (v:=?_) rfl (by kernel_rfl) (by kernel_rfl) (by kernel_rfl) (fun _ _ _ h=>h) (Or.inl ⟨by rfl,?_⟩) (by assumption) ?_;rotate_left
  ·(intro w9 hSw;(try dsimp only at hSw);go_simp)<;>with_reducible rfl
  refine wpAnyH_ready (rs:=[18]) (by kernel_rfl) (by simp) ?_;refine AllReadyH.cons rfl (fun K hK=>?_) AllReadyH.nil;go_simp;go_wp2_with (go_at_call 101;refine HC.out.mono ?_;rintro e w5 ⟨za,zc,rfl,b5,hz⟩);refine hK.out _ _ ?_ (fun hHeld2=>?_)
  ·exact NJ.below hHeld b5
  clear hK K;refine wpAnyH_take (i:=19) (v:=?_) rfl (by kernel_rfl) (by kernel_rfl) (by kernel_rfl) (fun _ _ _ h=>h) (Or.inl ⟨by rfl,?_⟩) (by assumption) ?_;rotate_left
  ·(intro w9 hSw;(try dsimp only at hSw);go_simp)<;>with_reducible rfl
  refine wpAnyH_take (i:=20) (v:=?_) rfl (by kernel_rfl) (by kernel_rfl) (by kernel_rfl) (fun _ _ _ h=>h) (Or.inl ⟨by rfl,?_⟩) (by assumption) ?_;rotate_left
  ·(intro w9 hSw;(try dsimp only at hSw);go_simp)<;>with_reducible rfl
  refine wpAnyH_ready (rs:=[21]) (by kernel_rfl) (by simp) ?_;refine AllReadyH.cons rfl (fun K hK=>?_) AllReadyH.nil;go_simp;go_wp2_with (go_at_call 142;refine(eC _ _).mono ?_;rintro e wn ⟨rfl,hwn⟩;obtain rfl:=hwn.symm;clear hwn);exact⟨rfl,aB HB0.out b5,.inr ⟨rfl,rfl⟩⟩
 ·have hRs:dA o s n (lN L) (fN L)=R:=HRR.out;have HR:=aA hRs
  clear hRs HRR;go_enter Tryz.func125,Tryz.ntmps125;go_wp2_with fail;have hS:=HS.out
  go_region_held3 (fun u=>NJ u b p lb (off+p.i) (off+p.k) (.slice (ad p.i) A.length (cp p.i)) (.slice (ad p.k) C.length (cp p.k))) (first|with_reducible exact hS|with_reducible exact NJ.below hS b5) (first|(go_at_call 101;refine HC.out.mono ?_;rintro e w5 ⟨za,zc,rfl,b5,hz⟩)|(go_at_call 142;refine(eZ _ _).mono ?_;rintro e wn ⟨rfl,hwn⟩;obtain rfl:=hwn.symm;clear hwn))
  have HB5:=aA (aB HB0.out b5);have HZ5:Hid (RL w5 za zc s):=hz.1
  have HH5:=aA (HH.out.below b5);have hs5:w.heap.size≤w5.heap.size:=HB5.out.size
  clear hS b5 hz HC RA RC HS HH;go_wp2_with fail;refine(QR w5 o za zc s _ n cap ad (lN L) cp (fN L) HZ5.out HH5.out HR.out).mono ?_;rintro e w6 ⟨qa,qc,ad6,cp6,Rb,B6,la,lc,mid,rfl,b6,o1,o2,m1,m2,m3⟩;have HB6:=aA (aB HB5.out b6)
  clear b6;cases R with
  |none=>
   clear o1 o2 m1 m2 m3;go_wp2_with fail;refine(eC _ _).mono ?_;rintro e wn ⟨rfl,hwn⟩;obtain rfl:=hwn.symm;clear hwn;exact⟨rfl,HB6.out,.inr ⟨rfl,rfl⟩⟩
  |some S=>
   have HO1:=aA o1;have HO2:=aA o2
   have HM:=aA (And.intro m1 (And.intro m2 m3));clear o1 o2 m1 m2 m3;have e1:QU n (some S)=n:=rfl
   have e2:YK (some S)=S.r:=rfl;rw[e1,e2];clear e1 e2;go_wp2_with fail;refine(eZ _ _).mono ?_;rintro e wn ⟨rfl,hwn⟩;obtain rfl:=hwn.symm;clear hwn;go_wp2;refine cV (results_tmp2 rfl _ _ _) rfl ?_;exact⟨HB6.out,.inl ⟨S,qa,qc,ad6,cp6,Rb,B6,la,lc,mid,w5.heap.size,rfl,rfl,hs5,HO1.out,HO2.out,HM.out.1,HM.out.2.1,HM.out.2.2⟩⟩
end Go.Proofs.YtelkehjdfcoeiaaGreat
