/-
  The program's basis on its way: its box, its queue and its rows; one more operator is put behind ((*impl.grbMaking).add)
-/
import Derived.Test.YtdidlcjhodejjaaGreatUbn
import Derived.Test.YtdidlcjhodejjaaGreatUbk
import Derived.Test.YtdidlcjhodejjaaGreatUbi
import Derived.Test.YtdidlcjhodejjaaGreatUbh
import Derived.Test.YtdidlcjhodejjaaGreatUay
import Derived.Deep.LoopGhost
namespace Go.Proofs.YtdidlcjhodejjaaGreat
open Go.RowKit Go.Deep Go.Joins
set_option linter.unusedVariables false
abbrev C5e (w:World) (b:Nat) (t:T):Prop:=w.cell? ⟨b,0,none⟩=some (.int .i64 t.c)∧w.cell? ⟨b,1,none⟩=some (.int .i64 t.m.x)∧w.cell? ⟨b,2,none⟩=some (.int .i64 t.m.y)∧w.cell? ⟨b,3,none⟩=some (.int .i64 t.m.d)∧w.cell? ⟨b,4,none⟩=some (.int .i64 t.m.e)
theorem C5e.fr {P:Nat→Prop} {w w':World} {b:Nat} {t:T} (h:C5e w b t) (hf:Fr P w w') (hp:¬ P b):C5e w' b t:=hf.c5 (t:=t) h hp
theorem new_set (w:World) (Mb:Nat) (v:Value) (ra:Option Addr) (g rc:Nat):∀ j u,[Value.slice ra g rc][j]? = some u→((w.setCell ⟨Mb,0,none⟩ v).alloc (.cells #[.slice ra g rc] 24)).cell? ((⟨w.heap.size,0,none⟩:Addr).add j)=some u:=by
 have:=World.news_of_block (heap_alloc_new (w.setCell ⟨Mb,0,none⟩ v) (.cells #[.slice ra g rc] 24))
 rwa [World.size_setCell] at this
def QY (lo Mb:Nat) (lv:Value) (Bq:Nat→Nat) (a e k:Nat):Prop:=k<lo∨k=Mb∨lv.ownBlock=some k∨∃ j,a≤j∧j<e∧k=Bq j
theorem Que.congr {w:World} {lo Q z:Nat} {lv:Value} {m:Nat} {kf kf':Nat→T} {B:Nat→Nat} {a e:Nat} (h:Que w lo Q z lv m kf B a e) (he:e≤tri m) (hk:∀ i,i<m→kf i=kf' i):Que w lo Q z lv m kf' B a e:=by
 have hmap:(List.range m).map kf=(List.range m).map kf':=List.map_congr_left fun i hi=>hk i (List.mem_range.1 hi)
 refine ⟨h.cl,h.cf,h.ct,h.fz,by rw [← hmap];exact h.own,h.ap,fun j j1 j2=>?_,h.bk,h.inj,h.hQ⟩
 rw [← prQ_congr (m:=m) hk (by omega)]
 exact h.pr j j1 j2
theorem Que.put {w:World} {lo Q z:Nat} {lv:Value} {m:Nat} {kf:Nat→T} {B:Nat→Nat} {a e:Nat} (h:Que w lo Q z lv m kf B a e) {x:Nat} (hx:x≠z∧x≠z+1∧x≠z+2) (v:Value):Que (w.setCell ⟨Q,x,none⟩ v) lo Q z lv m kf B a e:=by
 have f1:Fr (fun k=>k=Q) w (w.setCell ⟨Q,x,none⟩ v):=(Fr.refl _ w).set (fun _=>rfl)
 exact ⟨(sc_other (neQ hx.1)).trans h.cl,(sc_other (neQ hx.2.1)).trans h.cf,h.ct.imp fun v ⟨c1,c2⟩=>⟨(sc_other (neQ hx.2.2)).trans c1,c2⟩,by simp only [World.frozen?_setCell];exact h.fz,f1.owns h.own (fun g hg q=>h.ap g hg q),h.ap,fun j i1 i2=>(h.pr j i1 i2).fr f1 (h.bk j i1 i2).2.1,h.bk,h.inj,h.hQ⟩
structure Mx (w:World) (Mb:Nat) (tvL tvP:Value) (o:Int) (f:Nat):Prop where
 c0:w.cell? ⟨Mb,0,none⟩=some tvL
 c1:w.cell? ⟨Mb,1,none⟩=some tvP
 c2:w.cell? ⟨Mb,2,none⟩=some (.bool false)
 c3:w.cell? ⟨Mb,3,none⟩=some (.int .i64 o)
 c7:w.cell? ⟨Mb,7,none⟩=some (.int .i64 (f:Int))
 fz:∀ j,w.frozen? ⟨Mb,j,none⟩=false
theorem Mx.lt {w:World} {Mb:Nat} {tvL tvP:Value} {o:Int} {f:Nat} (h:Mx w Mb tvL tvP o f):Mb<w.heap.size:=World.block_lt_of_cell? w _ h.c0
theorem Mx.fr {P:Nat→Prop} {w w':World} {Mb:Nat} {tvL tvP:Value} {o:Int} {f:Nat} (h:Mx w Mb tvL tvP o f) (hf:Fr P w w') (hp:¬ P Mb):Mx w' Mb tvL tvP o f:=
 ⟨(hf.cell h.lt hp).trans h.c0,(hf.cell h.lt hp).trans h.c1,(hf.cell h.lt hp).trans h.c2,(hf.cell h.lt hp).trans h.c3,(hf.cell h.lt hp).trans h.c7,fun j=>(hf.frozen h.lt hp).trans (h.fz j)⟩
theorem Mx.below {w w':World} {Mb:Nat} {tvL tvP:Value} {o:Int} {f:Nat} (h:Mx w Mb tvL tvP o f) (hb:Below w.heap.size w w'):Mx w' Mb tvL tvP o f:=h.fr (P:=fun _=>False) (Fr.of_below hb) id
theorem Mx.set0 {w:World} {Mb:Nat} {tvL tvP:Value} {o:Int} {f:Nat} (h:Mx w Mb tvL tvP o f) (v:Value):Mx (w.setCell ⟨Mb,0,none⟩ v) Mb v tvP o f:=⟨sc_same h.c0,(sc_other (neQ (by decide))).trans h.c1,(sc_other (neQ (by decide))).trans h.c2,(sc_other (neQ (by decide))).trans h.c3,(sc_other (neQ (by decide))).trans h.c7,fun j=>(World.frozen?_setCell ..).trans (h.fz j)⟩
theorem Mx.set1 {w:World} {Mb:Nat} {tvL tvP:Value} {o:Int} {f:Nat} (h:Mx w Mb tvL tvP o f) (v:Value):Mx (w.setCell ⟨Mb,1,none⟩ v) Mb tvL v o f:=⟨(sc_other (neQ (by decide))).trans h.c0,sc_same h.c1,(sc_other (neQ (by decide))).trans h.c2,(sc_other (neQ (by decide))).trans h.c3,(sc_other (neQ (by decide))).trans h.c7,fun j=>(World.frozen?_setCell ..).trans (h.fz j)⟩
theorem Mx.set7 {w:World} {Mb:Nat} {tvL tvP:Value} {o:Int} {f:Nat} (h:Mx w Mb tvL tvP o f) (f':Nat):Mx (w.setCell ⟨Mb,7,none⟩ (.int .i64 (f':Int))) Mb tvL tvP o f':=⟨(sc_other (neQ (by decide))).trans h.c0,(sc_other (neQ (by decide))).trans h.c1,(sc_other (neQ (by decide))).trans h.c2,(sc_other (neQ (by decide))).trans h.c3,sc_same h.c7,fun j=>(World.frozen?_setCell ..).trans (h.fz j)⟩
structure MW (w:World) (lo Mb g:Nat) (o:Int) (f:Nat) (B:Bs) (a:Nat) (tvL tvP lv:Value) (LS PS:List Value) (Bq:Nat→Nat):Prop where
 bx:Mx w Mb tvL tvP o f
 qu:Que w lo Mb 4 lv B.m (fun i=>ldL o (B.L i)) Bq a (tri B.m)
 bk:BsW (QY lo Mb lv Bq a (tri B.m)) w lo tvL tvP g B.m B.L B.m B.P LS PS
 le:a≤tri B.m
 m12:B.m≤12
 lo:lo≤Mb
theorem MW.below {w w':World} {lo Mb g:Nat} {o:Int} {f:Nat} {B:Bs} {a:Nat} {tvL tvP lv:Value} {LS PS:List Value} {Bq:Nat→Nat} (h:MW w lo Mb g o f B a tvL tvP lv LS PS Bq) (hb:Below w.heap.size w w'):MW w' lo Mb g o f B a tvL tvP lv LS PS Bq:=⟨h.bx.below hb,h.qu.below hb,h.bk.below hb,h.le,h.m12,h.lo⟩
theorem MW.ylt {w:World} {lo Mb g:Nat} {o:Int} {f:Nat} {B:Bs} {a:Nat} {tvL tvP lv:Value} {LS PS:List Value} {Bq:Nat→Nat} (h:MW w lo Mb g o f B a tvL tvP lv LS PS Bq) {k:Nat} (hk:QY lo Mb lv Bq a (tri B.m) k):k<w.heap.size:=by
 have h1:=h.bx.lt
 have h2:=h.lo
 rcases hk with hk | rfl | hk | ⟨j,j1,j2,rfl⟩
 ·omega
 ·exact h1
 ·exact (h.qu.own.lt k hk).2
 ·exact (h.qu.pr j j1 j2).lt
theorem MW.qlo {w:World} {lo Mb g:Nat} {o:Int} {f:Nat} {B:Bs} {a:Nat} {tvL tvP lv:Value} {LS PS:List Value} {Bq:Nat→Nat} (h:MW w lo Mb g o f B a tvL tvP lv LS PS Bq) {k:Nat} (hk:QS Mb lv Bq a (tri B.m) k):lo≤k:=by
 rcases hk with rfl | hk | ⟨q1,rfl⟩
 ·exact h.lo
 ·exact (h.qu.own.lt k hk).1
 ·exact (h.qu.bk _ (by omega) (by omega)).1
theorem come_book {w w3:World} {lo Mb g:Nat} {o:Int} {f:Nat} {B:Bs} {a:Nat} {tvL tvP lv lv':Value} {LS PS:List Value} {Bq Bq':Nat→Nat} (h:MW w lo Mb g o f B a tvL tvP lv LS PS Bq) (hB:∀ j,j<tri B.m→Bq' j=Bq j) (hN:∀ j,tri B.m≤j→j<tri (B.m+1)→w.heap.size≤Bq' j) (hlv:∀ k,lv'.ownBlock=some k→lv.ownBlock=some k∨w.heap.size≤k) (hf:Fr (QS Mb lv Bq a (tri B.m)) w w3) :
  (BsW (QY lo Mb lv' Bq' a (tri (B.m+1))) w3 lo tvL tvP g B.m B.L B.m B.P LS PS)∧(∀ k,QS Mb lv Bq a (tri B.m) k→QY lo Mb lv Bq a (tri B.m) k)∧(∀ k,k<w.heap.size→QY lo Mb lv' Bq' a (tri (B.m+1)) k→QY lo Mb lv Bq a (tri B.m) k):=by
 have s1:∀ k,QS Mb lv Bq a (tri B.m) k→QY lo Mb lv Bq a (tri B.m) k:=fun k hk=>by
  rcases hk with q | q | ⟨q1,q2⟩
  ·exact .inr (.inl q)
  ·exact .inr (.inr (.inl q))
  ·exact .inr (.inr (.inr ⟨tri B.m - 1,by omega,by omega,q2⟩))
 have s2:∀ k,k<w.heap.size→QY lo Mb lv' Bq' a (tri (B.m+1)) k→QY lo Mb lv Bq a (tri B.m) k:=fun k hk q=>by
  rcases q with q | q | q | ⟨j,j1,j2,rfl⟩
  ·exact .inl q
  ·exact .inr (.inl q)
  ·rcases hlv k q with q | q
   ·exact .inr (.inr (.inl q))
   ·omega
  ·by_cases e:j<tri B.m
   ·exact .inr (.inr (.inr ⟨j,j1,e,hB j e⟩))
   ·have:=hN j (by omega) j2;omega
 refine ⟨?_,s1,s2⟩
 have h1:=h.bk.yet (Y':=fun b=>QY lo Mb lv Bq a (tri B.m) b∨QY lo Mb lv' Bq' a (tri (B.m+1)) b) (fun b hb q=>q.elim id (s2 b hb))
 exact (h1.fr hf (fun b q=>.inl (s1 b q))).yet (fun b _ q=>.inr q)
theorem Mx.kx {w w' : World} {lo Mb : Nat} {tvL tvP lv : Value} {o : Int} {f m : Nat} {kf : Nat → T} {B : Nat → Nat} {a e : Nat} (h : Mx w Mb tvL tvP o f) (hk : Kx Mb 4 w w') (hq : Que w' lo Mb 4 lv m kf B a e) : Mx w' Mb tvL tvP o f :=
  ⟨(hk 0 (by decide) (by decide) (by decide)).1.trans h.c0, (hk 1 (by decide) (by decide) (by decide)).1.trans h.c1, (hk 2 (by decide) (by decide) (by decide)).1.trans h.c2, (hk 3 (by decide) (by decide) (by decide)).1.trans h.c3, (hk 7 (by decide) (by decide) (by decide)).1.trans h.c7, fun j => by
    by_cases e1 : j = 4
    · subst e1; exact hq.fz.1
    · by_cases e2 : j = 5
      · subst e2; exact hq.fz.2.1
      · by_cases e3 : j = 6
        · subst e3; exact hq.fz.2.2
        · exact (hk j e1 e2 e3).2.trans (h.fz j)⟩
structure Ad3 (w3:World) (lo Mb g:Nat) (o:Int) (f:Nat) (B:Bs) (r:List T) (a:Nat) (tvL tvP lv:Value) (LS PS:List Value) (Bq:Nat→Nat) (pa:Option Addr) (pc:Nat) (ra:Option Addr) (rc:Nat) (rad:Nat→Option Addr) (rcp:Nat→Nat) (R:Nat→List T):Prop where
 bx:Mx w3 Mb tvL tvP o f
 qu:Que w3 lo Mb 4 lv (B.m+1) (fun i=>ldL o (updL B.L B.m r i)) Bq a (tri (B.m+1))
 bk:BsW (QY lo Mb lv Bq a (tri (B.m+1))) w3 lo tvL tvP g B.m B.L B.m B.P LS PS
 rr:RLo (NB (QY lo Mb lv Bq a (tri (B.m+1))) tvL tvP) w3 pa pc r
 rs:RSo (NB (QY lo Mb lv Bq a (tri (B.m+1))) tvL tvP) w3 ra g rc rad rcp R
 lo:lo≤Mb
theorem Ad3.ylt {w3:World} {lo Mb g:Nat} {o:Int} {f:Nat} {B:Bs} {r:List T} {a:Nat} {tvL tvP lv:Value} {LS PS:List Value} {Bq:Nat→Nat} {pa:Option Addr} {pc:Nat} {ra:Option Addr} {rc:Nat} {rad:Nat→Option Addr} {rcp:Nat→Nat} {R:Nat→List T} (h:Ad3 w3 lo Mb g o f B r a tvL tvP lv LS PS Bq pa pc ra rc rad rcp R):∀ k,QY lo Mb lv Bq a (tri (B.m+1)) k→k<w3.heap.size:=fun k hk=>by
 have l1:=h.bx.lt
 have l2:=h.lo
 rcases hk with hk | rfl | hk | ⟨j,j1,j2,rfl⟩
 ·omega
 ·exact h.bx.lt
 ·exact (h.qu.own.lt k hk).2
 ·exact (h.qu.pr j j1 j2).lt
structure Ad5 (w5:World) (lo Mb g:Nat) (o:Int) (f:Nat) (B:Bs) (r:List T) (a:Nat) (tvL tvP lv:Value) (LS PS:List Value) (Bq:Nat→Nat) (ra:Option Addr) (rc:Nat) (rad:Nat→Option Addr) (rcp:Nat→Nat) (R:Nat→List T):Prop where
 bx:Mx w5 Mb tvL tvP o f
 qu:Que w5 lo Mb 4 lv (B.m+1) (fun i=>ldL o (updL B.L B.m r i)) Bq a (tri (B.m+1))
 bk:BsW (QY lo Mb lv Bq a (tri (B.m+1))) w5 lo tvL tvP g (B.m+1) (updL B.L B.m r) B.m B.P LS PS
 rs:RSo (NB (QY lo Mb lv Bq a (tri (B.m+1))) tvL tvP) w5 ra g rc rad rcp R
 lo:lo≤Mb
theorem Que.own_fr {w w':World} {lo Mb:Nat} {lv:Value} {m:Nat} {kf:Nat→T} {Bq:Nat→Nat} {a e:Nat} (h:Que w lo Mb 4 lv m kf Bq a e) {v:Value} (hf:Fr (fun k=>v.ownBlock=some k) w w') (hn:∀ k,v.ownBlock=some k→¬ QY lo Mb lv Bq a e k):Que w' lo Mb 4 lv m kf Bq a e:=
 h.fr hf (fun q=>hn _ q (.inr (.inl rfl))) (fun g hg q=>hn _ q (.inr (.inr (.inl hg)))) (fun j j1 j2 q=>hn _ q (.inr (.inr (.inr ⟨j,j1,j2,rfl⟩))))
theorem Ad3.next {w3 w5 : World} {lo Mb g : Nat} {o : Int} {f : Nat} {B : Bs} {r : List T} {a : Nat} {tvL tvP lv : Value} {LS PS : List Value} {Bq : Nat → Nat} {pa : Option Addr} {pc : Nat} {ra : Option Addr} {rc : Nat} {rad : Nat → Option Addr} {rcp : Nat → Nat} {R : Nat → List T} (h : Ad3 w3 lo Mb g o f B r a tvL tvP lv LS PS Bq pa pc ra rc rad rcp R) {g1 cap1 : Nat}
    (ho : w5.ownsRow lo 45 1 (.slice (some ⟨g1, 0, none⟩) (B.m + 1) cap1) (B.m + 1) (LS ++ [.slice pa r.length pc])) (hg : (w3.alloc (.cells #[.slice pa r.length pc] 45)).grownBy w5 tvL.ownBlock) (ha : tvL.ownBlock = some g1 ∨ g1 = (w3.alloc (.cells #[.slice pa r.length pc] 45)).heap.size) :
    Mx w5 Mb tvL tvP o f ∧ Ad5 (w5.setCell ⟨Mb, 0, none⟩ (.slice (some ⟨g1, 0, none⟩) (B.m + 1) cap1)) lo Mb g o f B r a (.slice (some ⟨g1, 0, none⟩) (B.m + 1) cap1) tvP lv (LS ++ [.slice pa r.length pc]) PS Bq ra rc rad rcp R ∧ Fr (fun k => lo ≤ k) w3 (w5.setCell ⟨Mb, 0, none⟩ (.slice (some ⟨g1, 0, none⟩) (B.m + 1) cap1)) := by
  have f5 : Fr (fun k => tvL.ownBlock = some k) w3 w5 := ((Fr.refl _ w3).next (bel_one w3 _)).grown hg (fun k e _ => e)
  have nL : ∀ k, tvL.ownBlock = some k → ¬ QY lo Mb lv Bq a (tri (B.m + 1)) k := fun k e => (h.bk.nL k e).2
  have x5 := h.bx.fr f5 (fun q => nL _ q (.inr (.inl rfl)))
  have k5 := h.bk.appL h.ylt h.rr hg ho ha
  have q5 := h.qu.own_fr f5 nL
  have sY : Fr (QY lo Mb lv Bq a (tri (B.m + 1))) w5 (w5.setCell ⟨Mb, 0, none⟩ (.slice (some ⟨g1, 0, none⟩) (B.m + 1) cap1)) := (Fr.refl _ w5).set (fun _ => .inr (.inl rfl))
  have hg1 : tvL.ownBlock = some g1 ∨ g1 = w3.heap.size + 1 := ha.imp id (fun e => by rw [e]; simp)
  have rs5 : RSo (NB (QY lo Mb lv Bq a (tri (B.m + 1))) (.slice (some ⟨g1, 0, none⟩) (B.m + 1) cap1) tvP) (w5.setCell ⟨Mb, 0, none⟩ (.slice (some ⟨g1, 0, none⟩) (B.m + 1) cap1)) ra g rc rad rcp R :=
    (((h.rs.mono (N' := fun b => NB (QY lo Mb lv Bq a (tri (B.m + 1))) tvL tvP b ∧ b < w3.heap.size) (fun b hb nb => ⟨nb, hb⟩)).fr f5 (fun b nb q => nb.1.1 q)).fr sY (fun b nb q => nb.1.2.2 q)).mono (fun b _ nb => ⟨fun q => by
      have e : g1 = b := by simpa [Value.ownBlock] using q
      rcases hg1 with q' | q'
      · exact nb.1.1 (by rw [q', e])
      · have := nb.2; omega, nb.1.2.1, nb.1.2.2⟩)
  exact ⟨x5, ⟨x5.set0 _, q5.put (by decide) _, k5.fr sY (fun b q => q), rs5, h.lo⟩, (f5.mono (fun k _ e => (h.bk.rL.lt k e).1)).set (fun _ => h.lo)⟩
theorem Ad5.next {w5 w7:World} {lo Mb g:Nat} {o:Int} {f:Nat} {B:Bs} {r:List T} {a:Nat} {tvL tvP lv:Value} {LS PS:List Value} {Bq:Nat→Nat} {ra:Option Addr} {rc:Nat} {rad:Nat→Option Addr} {rcp:Nat→Nat} {R:Nat→List T} (h:Ad5 w5 lo Mb g o f B r a tvL tvP lv LS PS Bq ra rc rad rcp R) (hm:B.m≤11) (hle:a≤tri (B.m+1)) {g1 cap1:Nat}
  (ho:w7.ownsRow lo 24 1 (.slice (some ⟨g1,0,none⟩) (B.m+1) cap1) (B.m+1) (PS ++ [.slice ra g rc])) (hg:(w5.alloc (.cells #[.slice ra g rc] 24)).grownBy w7 tvP.ownBlock) (ha:tvP.ownBlock=some g1∨g1=(w5.alloc (.cells #[.slice ra g rc] 24)).heap.size) :
  Mx w7 Mb tvL tvP o f∧MW (w7.setCell ⟨Mb,1,none⟩ (.slice (some ⟨g1,0,none⟩) (B.m+1) cap1)) lo Mb g o f (addB B r R) a tvL (.slice (some ⟨g1,0,none⟩) (B.m+1) cap1) lv LS (PS ++ [.slice ra g rc]) Bq∧Fr (fun k=>lo≤k) w5 (w7.setCell ⟨Mb,1,none⟩ (.slice (some ⟨g1,0,none⟩) (B.m+1) cap1)):=by
 have f5:Fr (fun k=>tvP.ownBlock=some k) w5 w7:=((Fr.refl _ w5).next (bel_one w5 _)).grown hg (fun k e _=>e)
 have nP:∀ k,tvP.ownBlock=some k→¬ QY lo Mb lv Bq a (tri (B.m+1)) k:=fun k e=>h.bk.nP k e
 have ylt:∀ k,QY lo Mb lv Bq a (tri (B.m+1)) k→k<w5.heap.size:=fun k hk=>by
  have l1:=h.bx.lt
  have l2:=h.lo
  rcases hk with hk | rfl | hk | ⟨j,j1,j2,rfl⟩
  ·omega
  ·exact h.bx.lt
  ·exact (h.qu.own.lt k hk).2
  ·exact (h.qu.pr j j1 j2).lt
 have x5:=h.bx.fr f5 (fun q=>nP _ q (.inr (.inl rfl)))
 have k5:=h.bk.appP ylt h.rs hg ho ha
 have q5:=h.qu.own_fr f5 nP
 have sY:Fr (QY lo Mb lv Bq a (tri (B.m+1))) w7 (w7.setCell ⟨Mb,1,none⟩ (.slice (some ⟨g1,0,none⟩) (B.m+1) cap1)):=(Fr.refl _ w7).set (fun _=>.inr (.inl rfl))
 exact ⟨x5,⟨x5.set1 _,q5.put (by decide) _,k5.fr sY (fun b q=>q),hle,(show B.m+1≤12 by omega),h.lo⟩,(f5.mono (fun k _ e=>(h.bk.rP.lt k e).1)).set (fun _=>h.lo)⟩
set_option maxRecDepth 100000 in
set_option maxHeartbeats 8000000 in
theorem addMI (w:World) (lo Mb g:Nat) (o:Int) (f:Nat) (B:Bs) (a:Nat) (tvL tvP lv:Value) (LS PS:List Value) (Bq:Nat→Nat) (h:MW w lo Mb g o f B a tvL tvP lv LS PS Bq) (ho:1≤o∧o≤3) (hm:B.m≤11) (pa:Option Addr) (pc:Nat) (r:List T) (hr:RLo (NB (QY lo Mb lv Bq a (tri B.m)) tvL tvP) w pa pc r) (hok:okL r=true) (h0:r.length≠0) (ra:Option Addr) (rc:Nat) (rad:Nat→Option Addr) (rcp:Nat→Nat) (R:Nat→List T) (hR:RSo (NB (QY lo Mb lv Bq a (tri B.m)) tvL tvP) w ra g rc rad rcp R) :
  Calls Tryz.prog 140 #[.pointer (some ⟨Mb,0,none⟩),.slice pa r.length pc,.slice ra g rc] w fun e w'=>e=.returned (.tuple #[])∧∃ tvL' tvP' lv' LS' PS' Bq',MW w' lo Mb g o f (addB B r R) a tvL' tvP' lv' LS' PS' Bq'∧Fr (fun k=>lo≤k) w w':=by
 obtain ⟨i0,hi0,hz0,hz1,hz2⟩:=info_parts infoSL
 obtain ⟨i1,hi1,hy0,hy1,hy2⟩:=info_parts infoS3
 obtain ⟨t,ht⟩:∃ t,ldL o r=t:=⟨_,rfl⟩
 have hlead:leadT o r.length (lf r)=t:=(ldL_is ho hok h0).symm.trans ht
 have hcl:=polLeadI w o pa r.length pc (lf r) hr.1
 rw [hlead] at hcl
 have HCL:=Hid.mk' hcl
 have HT:=Hid.mk' ht
 have HH:=Hid.mk' h
 have HR:=Hid.mk' hr
 have HRS:=Hid.mk' hR
 have c3:=h.bx.c3
 have hmax:B.m+1≤maxLen:=by unfold maxLen;omega
 have hml:(B.m:Int)≤11:=by omega
 clear h hr hR hcl hlead ht
 go_enter Tryz.func140,Tryz.ntmps140
 go_wp2_with fail
 refine HCL.out.mono ?_
 rintro e w1 ⟨rfl,b1⟩
 clear c3 HCL
 have bx:=(bel_one w1 (.cells #[.int .i64 t.c,.int .i64 t.m.x,.int .i64 t.m.y,.int .i64 t.m.d,.int .i64 t.m.e] 42)).drew
 have b2:=bel_next b1 bx
 have HC5:Hid (C5 (w1.alloc (.cells #[.int .i64 t.c,.int .i64 t.m.x,.int .i64 t.m.y,.int .i64 t.m.d,.int .i64 t.m.e] 42)).drew w1.heap.size t):=(C5.box w1 42 t).below (Below.refl _ _).drew
 have HB2:=Hid.mk' b2
 have HM2:=Hid.mk' (HH.out.below b2)
 have HR2:Hid (RLo (NB (QY lo Mb lv Bq a (tri B.m)) tvL tvP) (w1.alloc (.cells #[.int .i64 t.c,.int .i64 t.m.x,.int .i64 t.m.y,.int .i64 t.m.d,.int .i64 t.m.e] 42)).drew pa pc r):=HR.out.fr (P:=fun _=>False) (Fr.of_below b2) (fun _ _ q=>q)
 have HRS2:Hid (RSo (NB (QY lo Mb lv Bq a (tri B.m)) tvL tvP) (w1.alloc (.cells #[.int .i64 t.c,.int .i64 t.m.x,.int .i64 t.m.y,.int .i64 t.m.d,.int .i64 t.m.e] 42)).drew ra g rc rad rcp R):=HRS.out.fr (P:=fun _=>False) (Fr.of_below b2) (fun _ _ q=>q)
 have hylt:∀ k,QY lo Mb lv Bq a (tri B.m) k→k<w1.heap.size:=fun k hk=>Nat.lt_of_lt_of_le (HH.out.ylt hk) b1.size
 have hkf:(fun i=>ldL o (updL B.L B.m r i)) B.m=t:=by show ldL o (updL B.L B.m r B.m)=t;unfold updL;rw [if_pos rfl];exact HT.out
 have hq2:=HM2.out.qu.congr (kf':=fun i=>ldL o (updL B.L B.m r i)) (Nat.le_refl _) (fun i hi=>by show ldL o (B.L i)=ldL o (updL B.L B.m r i);unfold updL;rw [if_neg (by omega)])
 have hlo2:lo≤(w1.alloc (.cells #[.int .i64 t.c,.int .i64 t.m.x,.int .i64 t.m.y,.int .i64 t.m.d,.int .i64 t.m.e] 42)).drew.heap.size:=by have h1:=HM2.out.lo;have h2:=HM2.out.bx.lt;omega
 have HCM:=Hid.mk' (comeK _ lo Mb 4 lv B.m _ Bq a hq2 HM2.out.le (by omega) hlo2 t hkf)
 have HYL:=Hid.mk' hylt
 clear b1 b2 bx hq2 hkf hylt hlo2
 go_wp2_with fail
 obtain ⟨s0,s1,s2,s3,s4⟩:=HC5.out
 have hS:C5e (w1.alloc (.cells #[.int .i64 t.c,.int .i64 t.m.x,.int .i64 t.m.y,.int .i64 t.m.d,.int .i64 t.m.e] 42)).drew w1.heap.size t:=⟨s0,s1,s2,s3,s4⟩
 clear s0 s1 s2 s3 s4
 go_region_held3 (fun x=>C5e x w1.heap.size t) (first | with_reducible exact hS3 | with_reducible exact hS) (first | (go_at_call 77;refine HCM.out.mono ?_;rintro e w3 ⟨rfl,lv',Bq',hq3,hB3,hN3,hlv3,hf3,hk3⟩;have hS3:C5e w3 w1.heap.size t:=C5e.fr hS hf3 (fun q=>by rcases q with q | q | ⟨q1,q2⟩;(· have:=HYL.out _ (.inr (.inl q));omega);(· have:=HYL.out _ (.inr (.inr (.inl q)));omega);(· have:=HYL.out _ (.inr (.inr (.inr ⟨tri B.m - 1,by omega,by omega,q2⟩)));omega))))
 obtain ⟨bk3,sub1,sub2⟩:=come_book HM2.out hB3 hN3 hlv3 hf3
 have hrr3:RLo (NB (QY lo Mb lv' Bq' a (tri (B.m+1))) tvL tvP) w3 pa pc r:=((HR2.out.mono (N':=fun b=>NB (QY lo Mb lv Bq a (tri B.m)) tvL tvP b∧NB (QY lo Mb lv' Bq' a (tri (B.m+1))) tvL tvP b) (fun b hb nb=>⟨nb,nb.1,nb.2.1,fun q=>nb.2.2 (sub2 b hb q)⟩)).fr hf3 (fun b nb q=>nb.1.2.2 (sub1 b q))).mono (fun b _ nb=>nb.2)
 have hrs3:RSo (NB (QY lo Mb lv' Bq' a (tri (B.m+1))) tvL tvP) w3 ra g rc rad rcp R:=((HRS2.out.mono (N':=fun b=>NB (QY lo Mb lv Bq a (tri B.m)) tvL tvP b∧NB (QY lo Mb lv' Bq' a (tri (B.m+1))) tvL tvP b) (fun b hb nb=>⟨nb,nb.1,nb.2.1,fun q=>nb.2.2 (sub2 b hb q)⟩)).fr hf3 (fun b nb q=>nb.1.2.2 (sub1 b q))).mono (fun b _ nb=>nb.2)
 have HA3:Hid (Ad3 w3 lo Mb g o f B r a tvL tvP lv' LS PS Bq' pa pc ra rc rad rcp R):=⟨HM2.out.bx.kx hk3 hq3,hq3,bk3,hrr3,hrs3,HM2.out.lo⟩
 have HF3:Hid (Fr (fun k=>lo≤k) w w3):=(Fr.of_below HB2.out).trans (hf3.mono (fun k _ q=>HM2.out.qlo q))
 have hlo3:lo≤w3.heap.size:=by have h1:=HM2.out.lo;have h2:=HA3.out.bx.lt;omega
 have hle3:a≤tri (B.m+1):=Nat.le_trans HM2.out.le (tri_mono (Nat.le_succ _))
 obtain ⟨la,lc,lad,lcp,hla,_⟩:=bk3.readL (by omega)
 obtain ⟨qa,qc,qA,qC,qAD,qCP,hqa,_⟩:=bk3.readP (by omega)
 subst hla hqa
 obtain ⟨k0,k1,k2,k3,k7,kz⟩:=HA3.out.bx
 have z0:=kz 0
 clear hS hS3 hq3 hB3 hN3 hlv3 hf3 hk3 bk3 sub1 sub2 hrr3 hrs3 HCM HM2 HR2 HRS2 HH HR HRS k2 k3 k7 kz HC5
 go_wp2_with (first | (at_builtin;refine wpList_append_lies _ rfl (.tmp 27) (.tmp 29) 24 rfl lo 45 i0 _ 1 24 Tryz.underlying24 hi0 hz0 hz1 hz2 rfl (by omega) _ B.m LS rfl (HA3.out.bk.rL.alloc _) ⟨w3.heap.size,0,none⟩ 1 1 [.slice pa r.length pc] rfl rfl (World.news_of_block (heap_alloc_new w3 _)) (one_sl _ _ _) (by omega) hmax (by omega) (by simp;omega) _ rfl ?_;intro g1 cap1 w5 hown2 hgrow2 hat2 hlt2;have HP5:=Hid.mk' (HA3.out.next hown2 hgrow2 hat2);obtain ⟨e0,e1,e2,e3,e7,ez⟩:=HP5.out.1;have hs5:lo≤w5.heap.size:=(by have h1:=HP5.out.2.1.lo;have h2:=HP5.out.1.lt;omega);have HN5:=Hid.mk' (new_set w5 Mb (.slice (some ⟨g1,0,none⟩) (B.m+1) cap1) ra g rc);clear k0 k1 z0 hown2 hgrow2 hat2 hlt2 e2 e3 e7) | (at_builtin;refine wpList_append_lies _ rfl (.tmp 39) (.tmp 41) 75 rfl lo 24 i1 _ 1 24 Tryz.underlying75 hi1 hy0 hy1 hy2 rfl (by omega) _ B.m PS rfl (HP5.out.2.1.bk.rP.alloc _) ⟨w5.heap.size,0,none⟩ 1 1 [.slice ra g rc] rfl rfl HN5.out (one_sl _ _ _) (by omega) hmax (by omega) (by simp;omega) _ rfl ?_;intro g2 cap2 w7 hown3 hgrow3 hat3 hlt3;have HP7:=Hid.mk' (HP5.out.2.1.next hm hle3 hown3 hgrow3 hat3);obtain ⟨f0,f1,f2,f3,f7,fz⟩:=HP7.out.1;clear hown3 hgrow3 hat3 hlt3 e0 e1 ez f2 f3 f7))
 go_end0
 exact ⟨rfl,_,_,lv',_,_,Bq',HP7.out.2.1,(HF3.out.trans HP5.out.2.2).trans HP7.out.2.2⟩
end Go.Proofs.YtdidlcjhodejjaaGreat
namespace Go.Proofs.YtdidlcjhodejjaaGreat
open Go.RowKit Go.Deep Go.Joins
set_option linter.unusedVariables false
abbrev S14 (u:World) (b:Nat) (p:Pr) (lb i k:Nat) (v1 v2:Value):Prop:=
 u.cell? ⟨b,0,none⟩=some (.int .i64 p.t1.c)∧u.cell? ⟨b,1,none⟩=some (.int .i64 p.t1.m.x)∧u.cell? ⟨b,2,none⟩=some (.int .i64 p.t1.m.y)∧u.cell? ⟨b,3,none⟩=some (.int .i64 p.t1.m.d)∧u.cell? ⟨b,4,none⟩=some (.int .i64 p.t1.m.e)∧u.cell? ⟨b,5,none⟩=some (.int .i64 p.t2.c)∧u.cell? ⟨b,6,none⟩=some (.int .i64 p.t2.m.x)∧u.cell? ⟨b,7,none⟩=some (.int .i64 p.t2.m.y)∧u.cell? ⟨b,8,none⟩=some (.int .i64 p.t2.m.d)∧u.cell? ⟨b,9,none⟩=some (.int .i64 p.t2.m.e)∧u.cell? ⟨b,10,none⟩=some (.int .i64 (p.i:Int))∧u.cell? ⟨b,11,none⟩=some (.int .i64 (p.k:Int))∧u.cell? ⟨lb,i,none⟩=some v1∧u.cell? ⟨lb,k,none⟩=some v2
theorem S14.mk {u:World} {b:Nat} {p:Pr} {nx:Option Addr} {lb i k:Nat} {v1 v2:Value} (h:PrAt u b p nx) (h1:u.cell? ⟨lb,i,none⟩=some v1) (h2:u.cell? ⟨lb,k,none⟩=some v2):S14 u b p lb i k v1 v2:=⟨h.a0,h.a1,h.a2,h.a3,h.a4,h.b0,h.b1,h.b2,h.b3,h.b4,h.ci,h.ck,h1,h2⟩
theorem S14.below {u u':World} {b:Nat} {p:Pr} {lb i k:Nat} {v1 v2:Value} (h:S14 u b p lb i k v1 v2) (hb:Below u.heap.size u u'):S14 u' b p lb i k v1 v2:=by
 obtain ⟨a0,a1,a2,a3,a4,c0,c1,c2,c3,c4,d0,d1,e0,e1⟩:=h
 have l1:=World.block_lt_of_cell? u _ a0
 have l2:=World.block_lt_of_cell? u _ e0
 exact ⟨(hb.cell (p:=⟨b,0,none⟩) l1).trans a0,(hb.cell (p:=⟨b,1,none⟩) l1).trans a1,(hb.cell (p:=⟨b,2,none⟩) l1).trans a2,(hb.cell (p:=⟨b,3,none⟩) l1).trans a3,(hb.cell (p:=⟨b,4,none⟩) l1).trans a4,(hb.cell (p:=⟨b,5,none⟩) l1).trans c0,(hb.cell (p:=⟨b,6,none⟩) l1).trans c1,(hb.cell (p:=⟨b,7,none⟩) l1).trans c2,(hb.cell (p:=⟨b,8,none⟩) l1).trans c3,(hb.cell (p:=⟨b,9,none⟩) l1).trans c4,(hb.cell (p:=⟨b,10,none⟩) l1).trans d0,(hb.cell (p:=⟨b,11,none⟩) l1).trans d1,(hb.cell (p:=⟨lb,i,none⟩) l2).trans e0,(hb.cell (p:=⟨lb,k,none⟩) l2).trans e1⟩
def DvdP (w:World) (n:Nat) (R:Option Dv) (r:Ending) (w':World):Prop:=
 Below w.heap.size w w'∧((∃ S qa qc ad cp Rb B la lc mid lo,R=some S∧r=.returned (.tuple #[.slice qa n qc,.slice la S.r.length lc])∧w.heap.size≤lo∧OutS lo w' qa n qc ad (fun i=>(S.q i).length) cp (fun i=>lf (S.q i)) Rb B∧Out mid w' la lc S.r∧(n=0∨Rb<mid)∧(∀ i,i<n→(S.q i).length≠0→B i<mid)∧lo≤mid)∨(R=none∧r=.panicked [{ v:=tooMuch,recovered:=false }]))
def dvdR (o:Int) (n:Nat) (L:Nat→List T) (p:Pr):Option Dv:=
 match diffV p.t1 p.t2 (lf (L p.i)) (L p.i).length (lf (L p.k)) (L p.k).length with
 | (s,true)=>redAll o s n (lN L) (fN L)
 | (_,false)=>none
set_option maxRecDepth 100000 in
set_option maxHeartbeats 8000000 in
theorem dividedI (w:World) (b:Nat) (p:Pr) (nx:Option Addr) (hp:PrAt w b p nx) (o:Int) (a:Option Addr) (n cap:Nat) (ad:Nat→Option Addr) (cp:Nat→Nat) (L:Nat→List T) (h:RdS w a n cap ad (lN L) cp (fN L)) (hi:p.i<n) (hk:p.k<n) {R:Option Dv} (hR:dvdR o n L p=R) :
  Calls Tryz.prog 81 #[.pointer (some ⟨b,0,none⟩),.int .i64 o,.slice a n cap] w (DvdP w n R):=by
 have q1:(n:Int)≤140737488351232:=by have:=h.2.1;omega
 have i1:(0:Int)≤(p.i:Int):=by omega
 have i2:(p.i:Int)<(n:Int):=by omega
 have k1:(0:Int)≤(p.k:Int):=by omega
 have k2:(p.k:Int)<(n:Int):=by omega
 have dr:Below w.heap.size w w.drew:=(Below.refl _ _).drew
 rcases h.2.2.1 with h0 | ⟨lb,off,rfl,hblt,hcl⟩
 ·omega
 obtain ⟨A,hA⟩:∃ A,L p.i=A:=⟨_,rfl⟩
 obtain ⟨C,hC⟩:∃ A,L p.k=A:=⟨_,rfl⟩
 have RA:Hid (RL w.drew (ad p.i) (cp p.i) A):=by rw [← hA];exact (h.2.2.2 p.i hi).below dr
 have RC:Hid (RL w.drew (ad p.k) (cp p.k) C):=by rw [← hC];exact (h.2.2.2 p.k hk).below dr
 have hS0:S14 w.drew b p lb (off+p.i) (off+p.k) (.slice (ad p.i) A.length (cp p.i)) (.slice (ad p.k) C.length (cp p.k)):=S14.mk (hp.below dr) ((dr.cell (p:=⟨lb,off+p.i,none⟩) hblt).trans (by rw [← hA];exact hcl p.i hi)) ((dr.cell (p:=⟨lb,off+p.k,none⟩) hblt).trans (by rw [← hC];exact hcl p.k hk))
 have HS:=Hid.mk' hS0
 have HH:=Hid.mk' (h.below dr)
 have HB0:=Hid.mk' dr
 obtain ⟨s,sb,hsp⟩:∃ s sb,diffV p.t1 p.t2 (lf A) A.length (lf C) C.length=(s,sb):=⟨_,_,rfl⟩
 have hc:=diffI w.drew p.t1 p.t2 (ad p.i) (ad p.k) A.length (cp p.i) C.length (cp p.k) (lf A) (lf C) RA.out RC.out
 rw [hsp] at hc
 have HC:=Hid.mk' hc
 have hRR:(match ((s,sb):List T × Bool) with | (s,true)=>redAll o s n (lN L) (fN L) | (_,false)=>none)=R:=by
  rw [← hR];unfold dvdR;rw [hA,hC,hsp]
 have HRR:=Hid.mk' hRR
 have hlbw:lb<w.heap.size:=hblt
 have hbw:b<w.heap.size:=hp.lt
 clear hp h hcl hS0 hc hsp hR hRR hA hC dr hblt
 cases sb
 ·have hRn:R=none:=HRR.out.symm
  subst hRn
  go_enter Tryz.func81,Tryz.ntmps81
  go_wp2_with fail
  have hS:=HS.out
  refine wp_region_held_drew (S:=(fun u=>S14 u b p lb (off+p.i) (off+p.k) (.slice (ad p.i) A.length (cp p.i)) (.slice (ad p.k) C.length (cp p.k)))) (by kernel_rfl) hS (fun hHeld=>?_)
  clear hS
  refine wpAnyH_take (i:=0) (v:=?_) rfl (by kernel_rfl) (by kernel_rfl) (by kernel_rfl) (fun _ _ _ h=>h) (Or.inl ⟨by rfl,?_⟩) (by assumption) ?_
  rotate_left
  ·(intro w9 hSw;(try dsimp only at hSw);go_simp) <;> with_reducible rfl
  refine wpAnyH_take (i:=1) (v:=?_) rfl (by kernel_rfl) (by kernel_rfl) (by kernel_rfl) (fun _ _ _ h=>h) (Or.inl ⟨by rfl,?_⟩) (by assumption) ?_
  rotate_left
  ·(intro w9 hSw;(try dsimp only at hSw);go_simp) <;> with_reducible rfl
  refine wpAnyH_take (i:=2) (v:=?_) rfl (by kernel_rfl) (by kernel_rfl) (by kernel_rfl) (fun _ _ _ h=>h) (Or.inl ⟨by rfl,?_⟩) (by assumption) ?_
  rotate_left
  ·(intro w9 hSw;(try dsimp only at hSw);go_simp) <;> with_reducible rfl
  refine wpAnyH_take (i:=3) (v:=?_) rfl (by kernel_rfl) (by kernel_rfl) (by kernel_rfl) (fun _ _ _ h=>h) (Or.inl ⟨by rfl,?_⟩) (by assumption) ?_
  rotate_left
  ·(intro w9 hSw;(try dsimp only at hSw);go_simp) <;> with_reducible rfl
  refine wpAnyH_take (i:=4) (v:=?_) rfl (by kernel_rfl) (by kernel_rfl) (by kernel_rfl) (fun _ _ _ h=>h) (Or.inl ⟨by rfl,?_⟩) (by assumption) ?_
  rotate_left
  ·(intro w9 hSw;(try dsimp only at hSw);go_simp) <;> with_reducible rfl
  refine wpAnyH_take (i:=5) (v:=?_) rfl (by kernel_rfl) (by kernel_rfl) (by kernel_rfl) (fun _ _ _ h=>h) (Or.inl ⟨by rfl,?_⟩) (by assumption) ?_
  rotate_left
  ·(intro w9 hSw;(try dsimp only at hSw);go_simp) <;> with_reducible rfl
  refine wpAnyH_take (i:=6) (v:=?_) rfl (by kernel_rfl) (by kernel_rfl) (by kernel_rfl) (fun _ _ _ h=>h) (Or.inl ⟨by rfl,?_⟩) (by assumption) ?_
  rotate_left
  ·(intro w9 hSw;(try dsimp only at hSw);go_simp) <;> with_reducible rfl
  refine wpAnyH_take (i:=7) (v:=?_) rfl (by kernel_rfl) (by kernel_rfl) (by kernel_rfl) (fun _ _ _ h=>h) (Or.inl ⟨by rfl,?_⟩) (by assumption) ?_
  rotate_left
  ·(intro w9 hSw;(try dsimp only at hSw);go_simp) <;> with_reducible rfl
  refine wpAnyH_take (i:=8) (v:=?_) rfl (by kernel_rfl) (by kernel_rfl) (by kernel_rfl) (fun _ _ _ h=>h) (Or.inl ⟨by rfl,?_⟩) (by assumption) ?_
  rotate_left
  ·(intro w9 hSw;(try dsimp only at hSw);go_simp) <;> with_reducible rfl
  refine wpAnyH_take (i:=9) (v:=?_) rfl (by kernel_rfl) (by kernel_rfl) (by kernel_rfl) (fun _ _ _ h=>h) (Or.inl ⟨by rfl,?_⟩) (by assumption) ?_
  rotate_left
  ·(intro w9 hSw;(try dsimp only at hSw);go_simp) <;> with_reducible rfl
  refine wpAnyH_take (i:=10) (v:=?_) rfl (by kernel_rfl) (by kernel_rfl) (by kernel_rfl) (fun _ _ _ h=>h) (Or.inl ⟨by rfl,?_⟩) (by assumption) ?_
  rotate_left
  ·(intro w9 hSw;(try dsimp only at hSw);go_simp) <;> with_reducible rfl
  refine wpAnyH_take (i:=11) (v:=?_) rfl (by kernel_rfl) (by kernel_rfl) (by kernel_rfl) (fun _ _ _ h=>h) (Or.inl ⟨by rfl,?_⟩) (by assumption) ?_
  rotate_left
  ·(intro w9 hSw;(try dsimp only at hSw);go_simp) <;> with_reducible rfl
  refine wpAnyH_take (i:=12) (v:=?_) rfl (by kernel_rfl) (by kernel_rfl) (by kernel_rfl) (fun _ _ _ h=>h) (Or.inl ⟨by rfl,?_⟩) (by assumption) ?_
  rotate_left
  ·(intro w9 hSw;(try dsimp only at hSw);go_simp) <;> with_reducible rfl
  refine wpAnyH_take (i:=13) (v:=?_) rfl (by kernel_rfl) (by kernel_rfl) (by kernel_rfl) (fun _ _ _ h=>h) (Or.inl ⟨by rfl,?_⟩) (by assumption) ?_
  rotate_left
  ·(intro w9 hSw;(try dsimp only at hSw);go_simp) <;> with_reducible rfl
  refine wpAnyH_take (i:=14) (v:=?_) rfl (by kernel_rfl) (by kernel_rfl) (by kernel_rfl) (fun _ _ _ h=>h) (Or.inl ⟨by rfl,?_⟩) (by assumption) ?_
  rotate_left
  ·(intro w9 hSw;(try dsimp only at hSw);go_simp) <;> with_reducible rfl
  refine wpAnyH_take (i:=15) (v:=?_) rfl (by kernel_rfl) (by kernel_rfl) (by kernel_rfl) (fun _ _ _ h=>h) (Or.inl ⟨by rfl,?_⟩) (by assumption) ?_
  rotate_left
  ·(intro w9 hSw;(try dsimp only at hSw);go_simp) <;> with_reducible rfl
  refine wpAnyH_take (i:=16) (v:=?_) rfl (by kernel_rfl) (by kernel_rfl) (by kernel_rfl) (fun _ _ _ h=>h) (Or.inl ⟨by rfl,?_⟩) (by assumption) ?_
  rotate_left
  ·(intro w9 hSw;(try dsimp only at hSw);go_simp) <;> with_reducible rfl
  refine wpAnyH_take (i:=17) (v:=?_) rfl (by kernel_rfl) (by kernel_rfl) (by kernel_rfl) (fun _ _ _ h=>h) (Or.inl ⟨by rfl,?_⟩) (by assumption) ?_
  rotate_left
  ·(intro w9 hSw;(try dsimp only at hSw);go_simp) <;> with_reducible rfl
  refine wpAnyH_ready (rs:=[18]) (by kernel_rfl) (by simp) ?_
  refine AllReadyH.cons rfl (fun K hK=>?_) AllReadyH.nil
  go_simp
  go_wp2_with (go_at_call 125;refine HC.out.mono ?_;rintro e w5 ⟨za,zc,rfl,b5,hz⟩)
  refine hK.out _ _ ?_ (fun hHeld2=>?_)
  ·exact S14.below hHeld b5
  clear hK K
  refine wpAnyH_take (i:=19) (v:=?_) rfl (by kernel_rfl) (by kernel_rfl) (by kernel_rfl) (fun _ _ _ h=>h) (Or.inl ⟨by rfl,?_⟩) (by assumption) ?_
  rotate_left
  ·(intro w9 hSw;(try dsimp only at hSw);go_simp) <;> with_reducible rfl
  refine wpAnyH_take (i:=20) (v:=?_) rfl (by kernel_rfl) (by kernel_rfl) (by kernel_rfl) (fun _ _ _ h=>h) (Or.inl ⟨by rfl,?_⟩) (by assumption) ?_
  rotate_left
  ·(intro w9 hSw;(try dsimp only at hSw);go_simp) <;> with_reducible rfl
  refine wpAnyH_ready (rs:=[21]) (by kernel_rfl) (by simp) ?_
  refine AllReadyH.cons rfl (fun K hK=>?_) AllReadyH.nil
  go_simp
  go_wp2_with (go_at_call 124;refine (redNeed_no _ _).mono ?_;rintro e wn ⟨rfl,hwn⟩;obtain rfl:=hwn.symm;clear hwn)
  exact ⟨rfl,bel_next HB0.out b5,.inr ⟨rfl,rfl⟩⟩
 ·have hRs:redAll o s n (lN L) (fN L)=R:=HRR.out
  have HR:=Hid.mk' hRs
  clear hRs HRR
  go_enter Tryz.func81,Tryz.ntmps81
  go_wp2_with fail
  have hS:=HS.out
  go_region_held3 (fun u=>S14 u b p lb (off+p.i) (off+p.k) (.slice (ad p.i) A.length (cp p.i)) (.slice (ad p.k) C.length (cp p.k))) (first | with_reducible exact hS | with_reducible exact S14.below hS b5) (first | (go_at_call 125;refine HC.out.mono ?_;rintro e w5 ⟨za,zc,rfl,b5,hz⟩) | (go_at_call 124;refine (redNeed_yes _ _).mono ?_;rintro e wn ⟨rfl,hwn⟩;obtain rfl:=hwn.symm;clear hwn))
  have HB5:=Hid.mk' (bel_next HB0.out b5)
  have HZ5:Hid (RL w5 za zc s):=hz.1
  have HH5:=Hid.mk' (HH.out.below b5)
  have hs5:w.heap.size≤w5.heap.size:=HB5.out.size
  clear hS b5 hz HC RA RC HS HH
  go_wp2_with fail
  refine (redAllI' w5 o za zc s _ n cap ad (lN L) cp (fN L) HZ5.out HH5.out HR.out).mono ?_
  rintro e w6 ⟨qa,qc,ad6,cp6,Rb,B6,la,lc,mid,rfl,b6,o1,o2,m1,m2,m3⟩
  have HB6:=Hid.mk' (bel_next HB5.out b6)
  clear b6
  cases R with
  | none=>
   clear o1 o2 m1 m2 m3
   go_wp2_with fail
   refine (redNeed_no _ _).mono ?_
   rintro e wn ⟨rfl,hwn⟩
   obtain rfl:=hwn.symm
   clear hwn
   exact ⟨rfl,HB6.out,.inr ⟨rfl,rfl⟩⟩
  | some S=>
   have HO1:=Hid.mk' o1
   have HO2:=Hid.mk' o2
   have HM:=Hid.mk' (And.intro m1 (And.intro m2 m3))
   clear o1 o2 m1 m2 m3
   have e1:resN n (some S)=n:=rfl
   have e2:resL (some S)=S.r:=rfl
   rw [e1,e2]
   clear e1 e2
   go_wp2_with fail
   refine (redNeed_yes _ _).mono ?_
   rintro e wn ⟨rfl,hwn⟩
   obtain rfl:=hwn.symm
   clear hwn
   go_wp2
   refine bodyPost_ret (results_tmp2 rfl _ _ _) rfl ?_
   exact ⟨HB6.out,.inl ⟨S,qa,qc,ad6,cp6,Rb,B6,la,lc,mid,w5.heap.size,rfl,rfl,hs5,HO1.out,HO2.out,HM.out.1,HM.out.2.1,HM.out.2.2⟩⟩
end Go.Proofs.YtdidlcjhodejjaaGreat
namespace Go.Proofs.YtdidlcjhodejjaaGreat
open Go.RowKit Go.Deep Go.Joins
set_option linter.unusedVariables false
end Go.Proofs.YtdidlcjhodejjaaGreat
namespace Go.Proofs.YtdidlcjhodejjaaGreat
open Go.RowKit Go.Deep Go.Joins
set_option linter.unusedVariables false
set_option linter.unusedSimpArgs false
theorem spr_prQ {o:Int} {n:Nat} {L:Nat→List T} (ho:1≤o∧o≤3) (hl:lstOk n (lN L) (fN L)=true) {j:Nat} (hj:j<tri n):spU o (L (pq j).1) (L (pq j).2)=(prQ (fun i=>ldL o (L i)) j).t1∧spV o (L (pq j).1) (L (pq j).2)=(prQ (fun i=>ldL o (L i)) j).t2∧spP o (L (pq j).1) (L (pq j).2)=diffV (prQ (fun i=>ldL o (L i)) j).t1 (prQ (fun i=>ldL o (L i)) j).t2 (lf (L (pq j).1)) (L (pq j).1).length (lf (L (pq j).2)) (L (pq j).2).length:=by
 obtain ⟨h1,h2⟩:=pq_lt hj
 have hL:=lds_of ho hl
 have li:leadT o (L (pq j).1).length (lf (L (pq j).1))=ldL o (L (pq j).1):=(ldL_is hL.ho (hL.fl _ (by omega)).1 (hL.fl _ (by omega)).2).symm
 have lk:leadT o (L (pq j).2).length (lf (L (pq j).2))=ldL o (L (pq j).2):=(ldL_is hL.ho (hL.fl _ h2).1 (hL.fl _ h2).2).symm
 have k1:ldB o (L (pq j).1)=true:=ldB_iff.2 ⟨ho,(hL.fl _ (by omega)).1,fun e=>(hL.fl (pq j).1 (by omega)).2 (by rw [e];rfl)⟩
 have k2:ldB o (L (pq j).2)=true:=ldB_iff.2 ⟨ho,(hL.fl _ h2).1,fun e=>(hL.fl (pq j).2 h2).2 (by rw [e];rfl)⟩
 have hok:sprOk o (L (pq j).1).length (lf (L (pq j).1)) (L (pq j).2).length (lf (L (pq j).2))=true:=by
  unfold sprOk
  rw [show leadOk o (L (pq j).1).length (lf (L (pq j).1))=true from k1,show leadOk o (L (pq j).2).length (lf (L (pq j).2))=true from k2]
  rfl
 have eU:spU o (L (pq j).1) (L (pq j).2)=(prQ (fun i=>ldL o (L i)) j).t1:=by
  unfold spU sprU sprB prQ
  rw [if_pos hok,li,lk]
 have eV:spV o (L (pq j).1) (L (pq j).2)=(prQ (fun i=>ldL o (L i)) j).t2:=by
  unfold spV sprV sprB prQ
  rw [if_pos hok,li,lk]
 refine ⟨eU,eV,?_⟩
 unfold spP sprPoly
 rw [if_pos hok]
 show diffV (spU o (L (pq j).1) (L (pq j).2)) (spV o (L (pq j).1) (L (pq j).2)) _ _ _ _=_
 rw [eU,eV]
def LookP (w:World) (lo Mb g:Nat) (o:Int) (f:Nat) (B:Bs) (a:Nat) (E:Option Bs) (r:Ending) (w':World):Prop:=
 Fr (fun k=>lo≤k) w w'∧((∃ tvL tvP lv LS PS Bq,E=none∧r=.panicked [{ v:=tooMuch,recovered:=false }]∧MW w' lo Mb g o f B a tvL tvP lv LS PS Bq)∨(∃ B' tvL tvP lv LS PS Bq,E=some B'∧r=.returned (.tuple #[])∧MW w' lo Mb g o f B' a tvL tvP lv LS PS Bq))
set_option maxRecDepth 100000 in
set_option maxHeartbeats 16000000 in
theorem lookAtI (w:World) (lo Mb g:Nat) (o:Int) (f:Nat) (B:Bs) (j:Nat) (tvL tvP lv:Value) (LS PS:List Value) (Bq:Nat→Nat) (h:MW w lo Mb g o f B (j+1) tvL tvP lv LS PS Bq) (hB:BsOk o g B) (hg:g≤12) (hj:j<tri B.m) (pb:Nat) (nx:Option Addr) (hp:PrAt w pb (prQ (fun i=>ldL o (B.L i)) j) nx) :
  Calls Tryz.prog 142 #[.pointer (some ⟨Mb,0,none⟩),.pointer (some ⟨pb,0,none⟩)] w (LookP w lo Mb g o f B (j+1) (stepB o g B (pq j).1 (pq j).2)):=by
 obtain ⟨h1,h2⟩:=pq_lt hj
 obtain ⟨eU,eV,eP⟩:=spr_prQ hB.ho hB.l hj
 obtain ⟨E,hE⟩:∃ E,stepB o g B (pq j).1 (pq j).2=E:=⟨_,rfl⟩
 rw [hE]
 obtain ⟨la0,lc0,lad,lcp,rfl,hRL⟩:=h.bk.readL (by have:=h.m12;omega)
 obtain ⟨pa0,pc0,A,C,AD,CP,rfl,hRP⟩:=h.bk.readP (by have:=h.m12;omega)
 obtain ⟨R,hR⟩:∃ R,dvdR o B.m B.L (prQ (fun i=>ldL o (B.L i)) j)=R:=⟨_,rfl⟩
 have dw:Below w.heap.size w w.drew:=(Below.refl _ _).drew
 have hc:=dividedI w.drew pb _ nx (hp.below dw) o la0 B.m lc0 lad lcp B.L (hRL.below dw) (show (pq j).1<B.m by omega) (show (pq j).2<B.m from h2) hR
 have HC:=Hid.mk' hc
 have HH:=Hid.mk' h
 have HBo:=Hid.mk' hB
 have HE:=Hid.mk' hE
 have HR:=Hid.mk' hR
 have HP:=Hid.mk' hp
 have HRP:=Hid.mk' hRP
 have HEQ:=Hid.mk' (And.intro eU (And.intro eV eP))
 have HS0:Hid (w.drew.cell? ⟨Mb,3,none⟩=some (.int .i64 o)∧w.drew.cell? ⟨Mb,0,none⟩=some (.slice la0 B.m lc0)):=⟨h.bx.c3,h.bx.c0⟩
 have hMl:Mb<w.heap.size:=h.bx.lt
 have hm12:(B.m:Int)≤12:=by have:=h.m12;omega
 have m12:=h.m12
 clear h hB hE hR hp hRP hRL hc eU eV eP dw
 cases R with
 | none=>
  have hEn:E=none:=by
   rw [← HE.out]
   have hR:=HR.out
   unfold dvdR at hR
   split at hR
   ·rename_i s hs
    exact stepB_none (g:=g) (HEQ.out.2.2.trans hs) hR
   ·rename_i s hs
    exact stepB_no (g:=g) (HEQ.out.2.2.trans hs)
  subst hEn
  have HCN:Hid (Calls Tryz.prog 81 #[.pointer (some ⟨pb,0,none⟩),.int .i64 o,.slice la0 B.m lc0] w.drew fun r w'=>r=.panicked [{ v:=tooMuch,recovered:=false }]∧Below w.drew.heap.size w.drew w'):=HC.out.mono fun r w' hh=>by
   rcases hh with ⟨hb,⟨S,_,_,_,_,_,_,_,_,_,_,e,_⟩ | ⟨_,e⟩⟩
   ·cases e
   ·exact ⟨e,hb⟩
  clear HC
  go_enter Tryz.func142,Tryz.ntmps142
  go_wp2_with fail
  have hS:=HS0.out
  refine wp_region_held_drew (S:=(fun x=>x.cell? ⟨Mb,3,none⟩=some (.int .i64 o)∧x.cell? ⟨Mb,0,none⟩=some (.slice la0 B.m lc0))) (by kernel_rfl) (hS) (fun hHeld=>?_)
  refine wpAnyH_take (i:=0) (v:=?_) rfl (by kernel_rfl) (by kernel_rfl) (by kernel_rfl) (fun _ _ _ h=>h) (Or.inl ⟨by rfl,?_⟩) (by assumption) ?_
  rotate_left
  ·(intro w9 hSw;(try dsimp only at hSw);go_simp) <;> with_reducible rfl
  try simp only [Act.put,List.getElem_toArray,List.getElem_cons_succ,List.getElem_cons_zero,List.setIfInBounds_toArray,List.set_cons_zero,List.set_cons_succ]
  refine wpAnyH_take (i:=1) (v:=?_) rfl (by kernel_rfl) (by kernel_rfl) (by kernel_rfl) (fun _ _ _ h=>h) (Or.inl ⟨by rfl,?_⟩) (by assumption) ?_
  rotate_left
  ·(intro w9 hSw;(try dsimp only at hSw);go_simp) <;> with_reducible rfl
  try simp only [Act.put,List.getElem_toArray,List.getElem_cons_succ,List.getElem_cons_zero,List.setIfInBounds_toArray,List.set_cons_zero,List.set_cons_succ]
  refine wpAnyH_take (i:=2) (v:=?_) rfl (by kernel_rfl) (by kernel_rfl) (by kernel_rfl) (fun _ _ _ h=>h) (Or.inl ⟨by rfl,?_⟩) (by assumption) ?_
  rotate_left
  ·(intro w9 hSw;(try dsimp only at hSw);go_simp) <;> with_reducible rfl
  try simp only [Act.put,List.getElem_toArray,List.getElem_cons_succ,List.getElem_cons_zero,List.setIfInBounds_toArray,List.set_cons_zero,List.set_cons_succ]
  refine wpAnyH_take (i:=3) (v:=?_) rfl (by kernel_rfl) (by kernel_rfl) (by kernel_rfl) (fun _ _ _ h=>h) (Or.inl ⟨by rfl,?_⟩) (by assumption) ?_
  rotate_left
  ·(intro w9 hSw;(try dsimp only at hSw);go_simp) <;> with_reducible rfl
  try simp only [Act.put,List.getElem_toArray,List.getElem_cons_succ,List.getElem_cons_zero,List.setIfInBounds_toArray,List.set_cons_zero,List.set_cons_succ]
  refine wpAnyH_take (i:=4) (v:=?_) rfl (by kernel_rfl) (by kernel_rfl) (by kernel_rfl) (fun _ _ _ h=>h) (Or.inl ⟨by rfl,?_⟩) (by assumption) ?_
  rotate_left
  ·(intro w9 hSw;(try dsimp only at hSw);go_simp) <;> with_reducible rfl
  try simp only [Act.put,List.getElem_toArray,List.getElem_cons_succ,List.getElem_cons_zero,List.setIfInBounds_toArray,List.set_cons_zero,List.set_cons_succ]
  refine wpAnyH_take (i:=5) (v:=?_) rfl (by kernel_rfl) (by kernel_rfl) (by kernel_rfl) (fun _ _ _ h=>h) (Or.inl ⟨by rfl,?_⟩) (by assumption) ?_
  rotate_left
  ·(intro w9 hSw;(try dsimp only at hSw);go_simp) <;> with_reducible rfl
  try simp only [Act.put,List.getElem_toArray,List.getElem_cons_succ,List.getElem_cons_zero,List.setIfInBounds_toArray,List.set_cons_zero,List.set_cons_succ]
  refine wpAnyH_take (i:=6) (v:=?_) rfl (by kernel_rfl) (by kernel_rfl) (by kernel_rfl) (fun _ _ _ h=>h) (Or.inl ⟨by rfl,?_⟩) (by assumption) ?_
  rotate_left
  ·(intro w9 hSw;(try dsimp only at hSw);go_simp) <;> with_reducible rfl
  try simp only [Act.put,List.getElem_toArray,List.getElem_cons_succ,List.getElem_cons_zero,List.setIfInBounds_toArray,List.set_cons_zero,List.set_cons_succ]
  refine wpAnyH_take (i:=7) (v:=?_) rfl (by kernel_rfl) (by kernel_rfl) (by kernel_rfl) (fun _ _ _ h=>h) (Or.inl ⟨by rfl,?_⟩) (by assumption) ?_
  rotate_left
  ·(intro w9 hSw;(try dsimp only at hSw);go_simp) <;> with_reducible rfl
  try simp only [Act.put,List.getElem_toArray,List.getElem_cons_succ,List.getElem_cons_zero,List.setIfInBounds_toArray,List.set_cons_zero,List.set_cons_succ]
  refine wpAnyH_take (i:=8) (v:=?_) rfl (by kernel_rfl) (by kernel_rfl) (by kernel_rfl) (fun _ _ _ h=>h) (Or.inl ⟨by rfl,?_⟩) (by assumption) ?_
  rotate_left
  ·(intro w9 hSw;(try dsimp only at hSw);go_simp) <;> with_reducible rfl
  try simp only [Act.put,List.getElem_toArray,List.getElem_cons_succ,List.getElem_cons_zero,List.setIfInBounds_toArray,List.set_cons_zero,List.set_cons_succ]
  refine wpAnyH_take (i:=9) (v:=?_) rfl (by kernel_rfl) (by kernel_rfl) (by kernel_rfl) (fun _ _ _ h=>h) (Or.inl ⟨by rfl,?_⟩) (by assumption) ?_
  rotate_left
  ·(intro w9 hSw;(try dsimp only at hSw);go_simp) <;> with_reducible rfl
  try simp only [Act.put,List.getElem_toArray,List.getElem_cons_succ,List.getElem_cons_zero,List.setIfInBounds_toArray,List.set_cons_zero,List.set_cons_succ]
  refine wpAnyH_ready (rs:=[10]) (by kernel_rfl) (by simp) ?_
  refine AllReadyH.cons rfl (fun K hK=>?_) AllReadyH.nil
  go_simp
  go_wp2_with (go_at_call 81;refine HCN.out.mono ?_;rintro e w5 ⟨rfl,b5⟩)
  have b5':=bel_next (Below.refl _ w).drew b5
  exact ⟨rfl,Fr.of_below b5',.inl ⟨_,_,_,_,_,_,rfl,rfl,HH.out.below b5'⟩⟩
 | some S=>
  obtain ⟨s,hs,hrs⟩:∃ s,spP o (B.L (pq j).1) (B.L (pq j).2)=(s,true)∧redAll o s B.m (lN B.L) (fN B.L)=some S:=by
   have hR:=HR.out
   unfold dvdR at hR
   split at hR
   ·rename_i s hs
    exact ⟨s,HEQ.out.2.2.trans hs,hR⟩
   ·cases hR
  have HSP:=Hid.mk' hs
  have HRA:=Hid.mk' hrs
  have HCY:Hid (Calls Tryz.prog 81 #[.pointer (some ⟨pb,0,none⟩),.int .i64 o,.slice la0 B.m lc0] w.drew fun r w'=>∃ qa qc ad cp la lc,r=.returned (.tuple #[.slice qa B.m qc,.slice la S.r.length lc])∧Below w.drew.heap.size w.drew w'∧RdS w' qa B.m qc ad (lN S.q) cp (fN S.q)∧Out w.heap.size w' la lc S.r):=HC.out.mono fun r w' hh=>by
   rcases hh with ⟨hb,⟨S',qa,qc,ad,cp,Rb,B',la,lc,mid,lo',e,e2,hlo',o1,o2,_,_,hmid⟩ | ⟨e,_⟩⟩
   ·cases e
    have hdw:w.drew.heap.size=w.heap.size:=by simp
    exact ⟨qa,qc,ad,cp,la,lc,e2,hb,o1.rd,o2.low (by omega)⟩
   ·cases e
  have hs300:(S.r.length:Int)≤300:=by have:=(redAll_ok hrs).1.r.2;omega
  clear HC hs hrs
  go_enter Tryz.func142,Tryz.ntmps142
  go_wp2_with fail
  have hS:=HS0.out
  go_region_held3 (fun x=>x.cell? ⟨Mb,3,none⟩=some (.int .i64 o)∧x.cell? ⟨Mb,0,none⟩=some (.slice la0 B.m lc0)) (first | with_reducible exact hS | with_reducible exact hS5) (first | (go_at_call 81;refine HCY.out.mono ?_;rintro e w5 ⟨qa,qc,qad,qcp,la,lc,rfl,b5,hq5,ho5⟩;have hS5:w5.cell? ⟨Mb,3,none⟩=some (.int .i64 o)∧w5.cell? ⟨Mb,0,none⟩=some (.slice la0 B.m lc0):=⟨(b5.cell (p:=⟨Mb,3,none⟩) hMl).trans hS.1,(b5.cell (p:=⟨Mb,0,none⟩) hMl).trans hS.2⟩))
  have b5':=bel_next (Below.refl _ w).drew b5
  have HB5:=Hid.mk' b5'
  have HM5:=Hid.mk' (HH.out.below b5')
  have HQ5:=Hid.mk' hq5
  have HO5:=Hid.mk' ho5
  have e0:=hS5.2
  have e1:=HM5.out.bx.c1
  clear hS hS5 b5 b5' hq5 ho5 HCY
  by_cases h0:S.r.length=0
  ·have hEs:E=some B:=by rw [← HE.out];exact stepB_same HSP.out HRA.out h0
   subst hEs
   have hq0:((S.r.length:Int) == 0)=true:=by rw [h0];rfl
   clear h0 e0 e1
   go_wp2
   go_end0
   exact ⟨Fr.of_below HB5.out,.inr ⟨B,_,_,_,_,_,_,rfl,rfl,HM5.out⟩⟩
  have hq0:((S.r.length:Int) == 0)=false:=beq_eq_false_iff_ne.2 (by omega)
  by_cases h12:B.m=12
  ·have hEn:E=none:=by rw [← HE.out];exact stepB_full HSP.out HRA.out h0 h12
   subst hEn
   have hmb:((B.m:Int) == 12)=true:=by rw [h12];rfl
   clear h0 h12 e1
   go_wp2
   exact ⟨rfl,Fr.of_below HB5.out,.inl ⟨_,_,_,_,_,_,rfl,rfl,HM5.out⟩⟩
  have hmb:((B.m:Int) == 12)=false:=beq_eq_false_iff_ne.2 (by omega)
  have HH0:=Hid.mk' (And.intro h0 h12)
  clear h0 h12
  obtain ⟨E2,hE2⟩:∃ E2,made g B.P (pq j).1 (pq j).2 (spU o (B.L (pq j).1) (B.L (pq j).2)) (spV o (B.L (pq j).1) (B.L (pq j).2)) B.m S.q=E2:=⟨_,rfl⟩
  obtain ⟨_,gU,gV⟩:=spUV_good HSP.out
  have hrow:=made_pf (show (pq j).1<B.m by omega) h2 HBo.out.p gU gV (fun t _=>okL_of (by have:=((redAll_ok HRA.out).1.q t).2;omega) ((redAll_ok HRA.out).1.q t).1)
  rw [hE2,HEQ.out.1,HEQ.out.2.1] at hrow
  have HPO:=Hid.mk' (proofOfI w5 Mb pb (prQ (fun i=>ldL o (B.L i)) j) nx (HP.out.below HB5.out) g B.m hg m12 pa0 pc0 HM5.out.bx.c1 A C AD CP B.P (HRP.out.below HB5.out) (show (pq j).1<B.m by omega) (show (pq j).2<B.m from h2) qa qc qad qcp S.q HQ5.out hrow)
  have HE2:=Hid.mk' hE2
  clear hE2 hrow gU gV
  go_wp2_with fail
  refine HPO.out.mono ?_
  rintro e w6 ⟨b6,h6⟩
  have b6':=bel_next HB5.out b6
  have HB6:=Hid.mk' b6'
  have HM6:=Hid.mk' (HM5.out.below b6)
  have HO6:=Hid.mk' (HO5.out.below b6)
  have hs56:w.heap.size≤w5.heap.size:=HB5.out.size
  clear b6 b6' e0 e1 HPO
  rcases h6 with ⟨RW,ra,rc,rad,rcp,xlo,xRb,xB,rfl,rfl,hxl,hxo⟩ | ⟨rfl,rfl⟩
  ·have hEs:E=some (addB B S.r RW):=by rw [← HE.out];exact stepB_more HSP.out HRA.out HH0.out.1 HH0.out.2 HE2.out
   subst hEs
   have far:∀ b,w.heap.size≤b→NB (QY lo Mb lv Bq (j+1) (tri B.m)) (.slice la0 B.m lc0) (.slice pa0 B.m pc0) b:=fun b hb=>NB.far (m:=w.heap.size) (fun k e=>(HH.out.bk.rL.lt k e).2) (fun k e=>(HH.out.bk.rP.lt k e).2) (fun k q=>HH.out.ylt q) hb
   have HR6:Hid (RLo (NB (QY lo Mb lv Bq (j+1) (tri B.m)) (.slice la0 B.m lc0) (.slice pa0 B.m pc0)) w6 la lc S.r):=⟨HO6.out.1,HO6.out.2.2.imp id (fun ⟨g,off',e,hg⟩ b o2 e2=>by rw [e] at e2;cases e2;exact far _ hg)⟩
   have HRS6:Hid (RSo (NB (QY lo Mb lv Bq (j+1) (tri B.m)) (.slice la0 B.m lc0) (.slice pa0 B.m pc0)) w6 ra g rc rad rcp RW):=(rso_outs (hi:=w6.heap.size) hxo (Nat.le_refl _)).mono (fun b _ hb=>far b (by omega))
   have hrok:okL S.r=true:=okL_of (by have:=(redAll_ok HRA.out).1.r.2;omega) (redAll_ok HRA.out).1.r.1
   have HAD:=Hid.mk' (addMI w6 lo Mb g o f B (j+1) _ _ lv LS PS Bq HM6.out HBo.out.ho (by have:=HH0.out.2;omega) la lc S.r HR6.out hrok HH0.out.1 ra rc rad rcp RW HRS6.out)
   clear far HR6 HRS6 hrok hxl hxo
   go_wp2_with fail
   refine HAD.out.mono ?_
   rintro e w7 ⟨rfl,tvL7,tvP7,lv7,LS7,PS7,Bq7,hM7,hF7⟩
   have HM7:=Hid.mk' hM7
   have HF7:Hid (Fr (fun k=>lo≤k) w w7):=(Fr.of_below HB6.out).trans hF7
   clear hM7 hF7
   go_wp2
   go_end0
   exact ⟨HF7.out,.inr ⟨_,_,_,_,_,_,_,rfl,rfl,HM7.out⟩⟩
  ·have hEn:E=none:=by rw [← HE.out];exact stepB_much HSP.out HRA.out HH0.out.1 HH0.out.2 HE2.out
   subst hEn
   exact ⟨rfl,Fr.of_below HB6.out,.inl ⟨_,_,_,_,_,_,rfl,rfl,HM6.out⟩⟩
end Go.Proofs.YtdidlcjhodejjaaGreat
