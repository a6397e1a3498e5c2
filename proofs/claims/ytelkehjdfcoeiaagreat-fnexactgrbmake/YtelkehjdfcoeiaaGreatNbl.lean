/-
  A pair of a basis is looked at: the model's l9Step.
-/
import Derived.Test.YtelkehjdfcoeiaaGreatNbk
set_option maxHeartbeats 16000000
set_option maxRecDepth 100000
namespace Go.Proofs.YtelkehjdfcoeiaaGreat
open Go.RowKit Go.Deep Go.Joins
set_option linter.unusedVariables false
theorem FO:(Tryz.prog.info? 24).map (fun i=>(i.zero,i.size,i.bytes))=some (some (.slice none 0 0),1,24):=by kernel_rfl
def VZ (Y:Nat→Prop) (w:World) (lo:Nat) (tvL tvP:Value) (d:Bool) (g:Nat) (B:Bs) (E:Option Bs) (r:Ending) (w':World):Prop:=
 (E=none∧r= .returned (.tuple #[.agg #[tvL,tvP,.bool d],.bool false])∧Below w.heap.size w w')∨(∃B' tvL' tvP' LS PS,E=some B'∧r= .returned (.tuple #[.agg #[tvL',tvP',.bool d],.bool true])∧Fr (fun k=>tvL.ownBlock=some k∨tvP.ownBlock=some k) w w'∧jG Y w' lo tvL' tvP' g B'.m B'.L B'.m B'.P LS PS)
def eT (w:World) (b:Nat) (v0 v1 v2:Value):Prop:=(w.cell? ⟨b,0,none⟩=some v0∧w.cell? ⟨b,1,none⟩=some v1∧w.cell? ⟨b,2,none⟩=some v2)∧∀j,w.frozen? ⟨b,j,none⟩=false
theorem eT.lt {w:World} {b:Nat} {v0 v1 v2:Value} (h:eT w b v0 v1 v2):b<w.heap.size:=cQ w _ h.1.1
theorem eT.fr {P:Nat→Prop} {w w':World} {b:Nat} {v0 v1 v2:Value} (h:eT w b v0 v1 v2) (hf:Fr P w w') (hp:¬P b):eT w' b v0 v1 v2:=
 ⟨⟨(hf.cell h.lt hp).trans h.1.1,(hf.cell h.lt hp).trans h.1.2.1,(hf.cell h.lt hp).trans h.1.2.2⟩,fun j=>(hf.frozen h.lt hp).trans (h.2 j)⟩
theorem eT.below {w w':World} {b:Nat} {v0 v1 v2:Value} (h:eT w b v0 v1 v2) (hb:Below w.heap.size w w'):eT w' b v0 v1 v2:=h.fr (P:=fun _=>False) (aO hb) (fun q=>q)
theorem eT.box (w:World) (y:TypeId) (v0 v1 v2:Value):eT (w.alloc (.cells #[v0,v1,v2] y)) w.heap.size v0 v1 v2:=
 ⟨⟨by rw[World.cell?_alloc_at _ _ _ _ rfl];rfl,by rw[World.cell?_alloc_at _ _ _ _ rfl];rfl,by rw[World.cell?_alloc_at _ _ _ _ rfl];rfl⟩,fun j=>by rw[World.frozen?_alloc_at _ _ _ _ rfl]⟩
abbrev SV (bx:Nat) (lv:Value) (lb x y:Nat) (v1 v2:Value) (u:World):Prop:=u.cell? ⟨bx,0,none⟩=some lv∧u.cell? ⟨lb,x,none⟩=some v1∧u.cell? ⟨lb,y,none⟩=some v2
theorem SV.below {u u':World} {bx:Nat} {lv:Value} {lb x y:Nat} {v1 v2:Value} (h:SV bx lv lb x y v1 v2 u) (hb:Below u.heap.size u u'):SV bx lv lb x y v1 v2 u':=
 ⟨(hb.cell (p:=⟨bx,0,none⟩) (cQ u _ h.1)).trans h.1,(hb.cell (p:=⟨lb,x,none⟩) (cQ u _ h.2.1)).trans h.2.1,(hb.cell (p:=⟨lb,y,none⟩) (cQ u _ h.2.2)).trans h.2.2⟩
abbrev SX (w1:World) (bx:Nat) (lv:Value) (lb x y:Nat) (v1 v2:Value) (u:World):Prop:=Below w1.heap.size w1 u∧u.cell? ⟨bx,0,none⟩=some lv∧u.cell? ⟨lb,x,none⟩=some v1∧u.cell? ⟨lb,y,none⟩=some v2
section
variable {w1 u u':World} {bx:Nat} {lv:Value} {lb x y:Nat} {v1 v2:Value}
theorem tI (hb:Below u.heap.size u u') (h:SX w1 bx lv lb x y v1 v2 u):SX w1 bx lv lb x y v1 v2 u':=⟨h.1.trans (hb.mono h.1.size),SV.below h.2 hb⟩
theorem jW {A:Obj} (h:SX w1 bx lv lb x y v1 v2 u):SX w1 bx lv lb x y v1 v2 (u.alloc A):=tI (aC u A) h
theorem wC (h:SX w1 bx lv lb x y v1 v2 u):SX w1 bx lv lb x y v1 v2 u.drew:=tI (bQ _ _).drew h
theorem YQ (h0:SX w1 bx lv lb x y v1 v2 w1) (h1:bx<w1.heap.size) (h2:lb<w1.heap.size) (hb:Below w1.heap.size w1 u):SX w1 bx lv lb x y v1 v2 u:=⟨hb,(hb.cell (p:=⟨bx,0,none⟩) h1).trans h0.2.1,(hb.cell (p:=⟨lb,x,none⟩) h2).trans h0.2.2.1,(hb.cell (p:=⟨lb,y,none⟩) h2).trans h0.2.2.2⟩
theorem WD {o:Obj} (h:Below w1.heap.size w1 u):Below w1.heap.size w1 (u.alloc o):=h.alloc h.size o
theorem WE {G o:Nat} {v:Value} (h:Below w1.heap.size w1 u) (hG:w1.heap.size≤G):Below w1.heap.size w1 (u.setCell ⟨G,o,none⟩ v):=h.setCell hG _
end
theorem SG       {w v : World} (hv : Below ((w.alloc (.cells #[.int .i64 0, .int .i64 0, .int .i64 0, .int .i64 0, .int .i64 0] 86)).alloc (.cells #[.int .i64 0, .int .i64 0, .int .i64 0, .int .i64 0, .int .i64 0] 86)).drew.heap.size ((w.alloc (.cells #[.int .i64 0, .int .i64 0, .int .i64 0, .int .i64 0, .int .i64 0] 86)).alloc (.cells #[.int .i64 0, .int .i64 0, .int .i64 0, .int .i64 0, .int .i64 0] 86)).drew v) : bH   v w.heap.size ⟨0, ⟨0, 0, 0, 0⟩⟩ ∧ bH   v (w.heap.size + 1) ⟨0, ⟨0, 0, 0, 0⟩⟩ :=
  ⟨(((bH.box   w 86 ⟨0, ⟨0, 0, 0, 0⟩⟩).below (aC      _ _)).below (bQ         _ _).drew).below hv, by
    have := ((bH.box   (w.alloc (.cells #[.int .i64 0, .int .i64 0, .int .i64 0, .int .i64 0, .int .i64 0] 86)) 86 ⟨0, ⟨0, 0, 0, 0⟩⟩).below (bQ         _ _).drew).below hv
    rwa [show (w.alloc (.cells #[.int .i64 0, .int .i64 0, .int .i64 0, .int .i64 0, .int .i64 0] 86)).heap.size = w.heap.size + 1 by simp] at this⟩
theorem PQ {w v:World} (hv:Below (w.alloc (.cells #[.int .i64 0,.int .i64 0,.int .i64 0,.int .i64 0,.int .i64 0] 86)).drew.heap.size (w.alloc (.cells #[.int .i64 0,.int .i64 0,.int .i64 0,.int .i64 0,.int .i64 0] 86)).drew v):bH v w.heap.size ⟨0,⟨0,0,0,0⟩⟩:=((bH.box w 86 ⟨0,⟨0,0,0,0⟩⟩).below (bQ _ _).drew).below hv
theorem EP {o:Int} {g:Nat} {B:Bs} {i k:Nat} {s:List T} (h:JO o (B.L i) (B.L k)=(s,false)):eG o g B i k=none:=by unfold eG;rw[h]
theorem wG {o:Int} {g:Nat} {B:Bs} {i k:Nat} {s:List T} (h:JO o (B.L i) (B.L k)=(s,true)) (hr:dA o s B.m (lN B.L) (fN B.L)=none):eG o g B i k=none:=by unfold eG;rw[h];simp only[hr]
theorem wH {o:Int} {g:Nat} {B:Bs} {i k:Nat} {s:List T} {S:Dv} (h:JO o (B.L i) (B.L k)=(s,true)) (hr:dA o s B.m (lN B.L) (fN B.L)=some S) (h0:S.r.length=0):eG o g B i k=some B:=by unfold eG;rw[h];simp only[hr,if_pos h0]
theorem wD {o:Int} {g:Nat} {B:Bs} {i k:Nat} {s:List T} {S:Dv} (h:JO o (B.L i) (B.L k)=(s,true)) (hr:dA o s B.m (lN B.L) (fN B.L)=some S) (h0:S.r.length≠0) (hm:B.m=12):eG o g B i k=none:=by unfold eG;rw[h];simp only[hr,if_neg h0,if_pos hm]
theorem wF {o:Int} {g:Nat} {B:Bs} {i k:Nat} {s:List T} {S:Dv} (h:JO o (B.L i) (B.L k)=(s,true)) (hr:dA o s B.m (lN B.L) (fN B.L)=some S) (h0:S.r.length≠0) (hm:B.m≠12) (hd:lL g B.P i k (FC o (B.L i) (B.L k)) (GN o (B.L i) (B.L k)) B.m S.q=none):eG o g B i k=none:=by unfold eG;rw[h];simp only[hr,if_neg h0,if_neg hm,hd]
theorem wE {o:Int} {g:Nat} {B:Bs} {i k:Nat} {s:List T} {S:Dv} {R:Nat→List T} (h:JO o (B.L i) (B.L k)=(s,true)) (hr:dA o s B.m (lN B.L) (fN B.L)=some S) (h0:S.r.length≠0) (hm:B.m≠12) (hd:lL g B.P i k (FC o (B.L i) (B.L k)) (GN o (B.L i) (B.L k)) B.m S.q=some R):eG o g B i k=some (zE B S.r R):=by unfold eG;rw[h];simp only[hr,if_neg h0,if_neg hm,hd]
theorem fD {a w:World} {B:Nat} (h:Below a.heap.size a w) (hB:a.heap.size≤B) (u0 u1 u2:Value):Below a.heap.size a (((w.setCell ⟨B,0,none⟩ u0).setCell ⟨B,1,none⟩ u1).setCell ⟨B,2,none⟩ u2):=((h.setCell hB _).setCell hB _).setCell hB _
theorem eT.set0 {w:World} {b:Nat} {v0 v1 v2:Value} (h:eT w b v0 v1 v2) (v:Value):eT (w.setCell ⟨b,0,none⟩ v) b v v1 v2:=⟨⟨gF h.1.1,(aJ (pE (by decide))).trans h.1.2.1,(aJ (pE (by decide))).trans h.1.2.2⟩,fun j=>(World.frozen?_setCell ..).trans (h.2 j)⟩
theorem eT.set1 {w:World} {b:Nat} {v0 v1 v2:Value} (h:eT w b v0 v1 v2) (v:Value):eT (w.setCell ⟨b,1,none⟩ v) b v0 v v2:=⟨⟨(aJ (pE (by decide))).trans h.1.1,gF h.1.2.1,(aJ (pE (by decide))).trans h.1.2.2⟩,fun j=>(World.frozen?_setCell ..).trans (h.2 j)⟩
theorem NB.far {Y:Nat→Prop} {tvL tvP:Value} {m:Nat} (h1:∀k,tvL.ownBlock=some k→k<m) (h2:∀k,tvP.ownBlock=some k→k<m) (h3:∀k,Y k→k<m) {b:Nat} (hb:m≤b):NB Y tvL tvP b:=⟨fun e=>by have:=h1 b e;omega,fun e=>by have:=h2 b e;omega,fun e=>by have:=h3 b e;omega⟩
theorem wA {lo hi:Nat} {w:World} {a:Option Addr} {n c:Nat} {ad:Nat→Option Addr} {cp:Nat→Nat} {R:Nat→List T} {Rb:Nat} {B:Nat→Nat} (h:dV lo w a n c ad (lN R) cp (fN R) Rb B) (hhi:w.heap.size≤hi):uI (fun b=>lo≤b∧b<hi) w a n c ad cp R:=by
 refine⟨h.rd,?_,fun j hj=>?_⟩
 ·rcases h.row with h0|⟨off,e,hlo⟩
  ·exact .inl h0
  ·rcases h.rd.2.2.1 with h0|⟨b,off',e',hlt,_⟩
   ·exact .inl h0
   ·refine .inr fun b2 o2 e2=>?_;rw[e]at e2 e';cases e2;cases e';exact⟨hlo,by omega⟩
 ·rcases h.el j hj with h0|⟨off,e,hlo,_⟩
  ·exact .inl h0
  ·rcases(h.rd.2.2.2 j hj).2.2 with h0|⟨b,off',e',hlt,_⟩
   ·exact .inl h0
   ·refine .inr fun b2 o2 e2=>?_;rw[e]at e2 e';cases e2;cases e';exact⟨hlo,by omega⟩
theorem VF {m:Nat} {w:World} {a:Option Addr} {c:Nat} {L:List T} (h:RL w a c L) (hf:∀x,x<m→NF a L.length x):xC (fun b=>m≤b) w a c L:=⟨h,by
 by_cases h0:L.length=0
 ·exact .inl h0
 ·refine .inr fun b off e=>?_;by_cases hb:b<m
  ·rcases hf b hb with q|q
   ·exact absurd q h0
   ·exact absurd rfl (q b off e)
  ·omega⟩
structure M8 (Y:Nat→Prop) (w:World) (lo:Nat) (vL vP:Value) (d:Bool) (g:Nat) (B:Bs) (r:List T) (LS PS:List Value) (ya:Option Addr) (yc:Nat) (yad:Nat→Option Addr) (ycp:Nat→Nat) (RW:Nat→List T) (g1 cap1:Nat) (w8:World):Prop where
 box0:eT w8 w.heap.size vL vP (.bool d)
 book:jG Y (w8.setCell ⟨w.heap.size,0,none⟩ (.slice (some ⟨g1,0,none⟩) (B.m+1) cap1)) lo (.slice (some ⟨g1,0,none⟩) (B.m+1) cap1) vP g (B.m+1) (bK B.L B.m r) B.m B.P LS PS
 box:eT (w8.setCell ⟨w.heap.size,0,none⟩ (.slice (some ⟨g1,0,none⟩) (B.m+1) cap1)) w.heap.size (.slice (some ⟨g1,0,none⟩) (B.m+1) cap1) vP (.bool d)
 res:eT (w8.setCell ⟨w.heap.size,0,none⟩ (.slice (some ⟨g1,0,none⟩) (B.m+1) cap1)) (w.heap.size+1) (.slice none 0 0) (.slice none 0 0) (.bool false)
 row:uI (NB Y (.slice (some ⟨g1,0,none⟩) (B.m+1) cap1) vP) (w8.setCell ⟨w.heap.size,0,none⟩ (.slice (some ⟨g1,0,none⟩) (B.m+1) cap1)) ya g yc yad ycp RW
 fr:Fr (fun k=>vL.ownBlock=some k∨vP.ownBlock=some k) w (w8.setCell ⟨w.heap.size,0,none⟩ (.slice (some ⟨g1,0,none⟩) (B.m+1) cap1))
 lo8:w.heap.size≤w8.heap.size
 at1:vL.ownBlock=some g1∨w.heap.size≤g1
theorem M8.news {Y:Nat→Prop} {w:World} {lo:Nat} {vL vP:Value} {d:Bool} {g:Nat} {B:Bs} {r:List T} {LS PS:List Value} {ya:Option Addr} {yc:Nat} {yad:Nat→Option Addr} {ycp:Nat→Nat} {RW:Nat→List T} {g1 cap1:Nat} {w8:World} (h:M8 Y w lo vL vP d g B r LS PS ya yc yad ycp RW g1 cap1 w8):∀j u,[Value.slice ya g yc][j]? =some u→((w8.setCell ⟨w.heap.size,0,none⟩ (.slice (some ⟨g1,0,none⟩) (B.m+1) cap1)).alloc (.cells #[.slice ya g yc] 24)).cell? ((⟨w8.heap.size,0,none⟩:Addr).add j)=some u:=by
 have:=World.news_of_block (heap_alloc_new (w8.setCell ⟨w.heap.size,0,none⟩ (.slice (some ⟨g1,0,none⟩) (B.m+1) cap1)) (.cells #[.slice ya g yc] 24))
 rwa[World.size_setCell]at this
structure M9 (Y:Nat→Prop) (w:World) (lo:Nat) (vL vP:Value) (d:Bool) (g:Nat) (B:Bs) (r:List T) (LS PS:List Value) (RW:Nat→List T) (g1 cap1 g2 cap2:Nat) (w10:World):Prop where
 box0:eT w10 w.heap.size (.slice (some ⟨g1,0,none⟩) (B.m+1) cap1) vP (.bool d)
 res:eT w10 (w.heap.size+1) (.slice none 0 0) (.slice none 0 0) (.bool false)
 book:jG Y w10 lo (.slice (some ⟨g1,0,none⟩) (B.m+1) cap1) (.slice (some ⟨g2,0,none⟩) (B.m+1) cap2) g (B.m+1) (bK B.L B.m r) (B.m+1) (oG B.P B.m RW) LS PS
 fr:Fr (fun k=>vL.ownBlock=some k∨vP.ownBlock=some k) w w10
 at1:vL.ownBlock=some g1∨w.heap.size≤g1
 at2:vP.ownBlock=some g2∨w.heap.size≤g2
theorem M8.next {Y:Nat→Prop} {w:World} {lo:Nat} {vL vP:Value} {d:Bool} {g:Nat} {B:Bs} {r:List T} {LS PS:List Value} {ya:Option Addr} {yc:Nat} {yad:Nat→Option Addr} {ycp:Nat→Nat} {RW:Nat→List T} {g1 cap1:Nat} {w8:World} (h:M8 Y w lo vL vP d g B r LS PS ya yc yad ycp RW g1 cap1 w8) (hYs:∀b,Y b→b<w.heap.size+2) (hY:Y w.heap.size∧Y (w.heap.size+1)) (hlo:lo≤w.heap.size) {g2 cap2:Nat} {w10:World} (ho:w10.ownsRow lo 24 1 (.slice (some ⟨g2,0,none⟩) (B.m+1) cap2) (B.m+1) (PS++[.slice ya g yc])) (hg:((w8.setCell ⟨w.heap.size,0,none⟩ (.slice (some ⟨g1,0,none⟩) (B.m+1) cap1)).alloc (.cells #[.slice ya g yc] 24)).grownBy w10 vP.ownBlock) (ha:vP.ownBlock=some g2∨g2=((w8.setCell ⟨w.heap.size,0,none⟩ (.slice (some ⟨g1,0,none⟩) (B.m+1) cap1)).alloc (.cells #[.slice ya g yc] 24)).heap.size):M9 Y w lo vL vP d g B r LS (PS++[.slice ya g yc]) RW g1 cap1 g2 cap2 w10:=by
 have hb:=h.box.lt;have hr:=h.res.lt
 have f10:=((Fr.refl (fun k=>vP.ownBlock=some k) (w8.setCell ⟨w.heap.size,0,none⟩ (.slice (some ⟨g1,0,none⟩) (B.m+1) cap1))).next (aC _ (.cells #[.slice ya g yc] 24))).grown hg (fun k e _=>e);have nY:∀b,Y b→vP.ownBlock≠some b:=fun b q e=>h.book.nP b e q
 refine⟨h.box.fr f10 (nY _ hY.1),h.res.fr f10 (nY _ hY.2),h.book.appP (fun b q=>?_) h.row hg ho ha,h.fr.trans (f10.mono (fun k _ e=>.inr e)),h.at1,ha.imp id (fun e=>?_)⟩
 ·have:=hYs b q;omega
 ·rw[e,World.size_alloc];have:=h.lo8
  rw[World.size_setCell];omega
theorem M9.fin {Y:Nat→Prop} {w:World} {lo:Nat} {vL vP:Value} {d:Bool} {g:Nat} {B:Bs} {r:List T} {LS PS:List Value} {RW:Nat→List T} {g1 cap1 g2 cap2:Nat} {w10:World} (h:M9 Y w lo vL vP d g B r LS PS RW g1 cap1 g2 cap2 w10) (hY:Y w.heap.size∧Y (w.heap.size+1)) {Y0:Nat→Prop} (hYu:∀b,Y0 b→Y b) {E:Option Bs} (hE:E=some (zE B r RW)) {u0 u1 u2 u3:Value} (hlo:lo≤w.heap.size):VZ Y0 w lo vL vP d g B E (.returned (.tuple #[.agg #[.slice (some ⟨g1,0,none⟩) (B.m+1) cap1,.slice (some ⟨g2,0,none⟩) (B.m+1) cap2,.bool d],.bool true])) ((((w10.setCell ⟨w.heap.size,1,none⟩ u0).setCell ⟨w.heap.size+1,0,none⟩ u1).setCell ⟨w.heap.size+1,1,none⟩ u2).setCell ⟨w.heap.size+1,2,none⟩ u3):=by exact .inr ⟨_,_,_,LS,PS,hE,rfl,(((h.fr.set (fun q=>by omega)).set (fun q=>by omega)).set (fun q=>by omega)).set (fun q=>by omega),(h.book.fr (((((Fr.refl Y w10).set (fun _=>hY.1)).set (fun _=>hY.2)).set (fun _=>hY.2)).set (fun _=>hY.2)) (fun b q=>q)).yet (fun b _ q=>hYu b q)⟩
theorem UE (Y0 : Nat → Prop) (w : World) (hY0 : ∀ b, Y0 b → b < w.heap.size) (lo : Nat) (tvL tvP : Value) (d : Bool) (g : Nat) (hg : g ≤ 12) (B : Bs) (LS PS : List Value) (o : Int) (hB : wZ o g B) (h : jG Y0 w lo tvL tvP g B.m B.L B.m B.P LS PS) (i k : Nat) (hi : i < B.m) (hk : k < B.m) (hlo : lo ≤ w.heap.size) : Calls Tryz.prog 33 #[.int .i64 o, .agg #[tvL, tvP, .bool d], .int .i64 (i : Int), .int .i64 (k : Int)] w (VZ Y0 w lo tvL tvP d g B (eG o g B i k)) := by
  obtain⟨i0,hi0,hz0,hz1,hz2⟩:=info_parts pR
  obtain⟨i1,hi1,hy0,hy1,hy2⟩:=info_parts FO
  have m12:=(aU hB.l).1
  obtain⟨la,lc,ad,cp,rfl,hRL⟩:=h.readL (by omega)
  obtain⟨pa,pc,A,C,AD,CP,rfl,hRP⟩:=h.readP (by omega)
  have hil:(i:Int)<(B.m:Int):=by omega
  have hkl:(k:Int)<(B.m:Int):=by omega
  have hml:(B.m:Int)≤12:=by omega
  rcases hRL.2.2.1 with h0|⟨lb,off,rfl,hlb,hcl⟩
  · omega
  have HW:=aA h
  have HOK:=aA hB
  have HL0:=aA hRL
  have HP0:=aA hRP
  have HC0:=aA hcl
  obtain⟨vl,hvl⟩:∃v:Value,v= .slice (some ⟨lb,off,none⟩) B.m lc:=⟨_,rfl⟩
  have HBX0:=aA (((eT.box w 27 (.slice (some ⟨lb,off,none⟩) B.m lc) (.slice pa B.m pc) (.bool d)).below (aC _ (.cells #[.slice none 0 0,.slice none 0 0,.bool false] 27))))
  have HRX0:=aA (eT.box (w.alloc (.cells #[.slice (some ⟨lb,off,none⟩) B.m lc,.slice pa B.m pc,.bool d] 27)) 27 (.slice none 0 0) (.slice none 0 0) (.bool false))
  have HBW0:=aA (aN w (.cells #[.slice (some ⟨lb,off,none⟩) B.m lc,.slice pa B.m pc,.bool d] 27) (.cells #[.slice none 0 0,.slice none 0 0,.bool false] 27))
  clear h hB hRL hRP hcl
  go_enter Tryz.func33,Tryz.ntmps33
  go_wp2_with fail
  rw[show(w.alloc (.cells #[.slice (some ⟨lb,off,none⟩) B.m lc,.slice pa B.m pc,.bool d] 27)).heap.size=w.heap.size+1 by simp]at HRX0
  generalize(w.alloc (.cells #[.slice (some ⟨lb,off,none⟩) B.m lc,.slice pa B.m pc,.bool d] 27)).alloc (.cells #[.slice none 0 0,.slice none 0 0,.bool false] 27)=w1 at HBX0 HRX0 HBW0⊢
  obtain⟨⟨k0,k1,k2⟩,kz⟩:=HBX0.out
  have HL1:=aA (HL0.out.below HBW0.out)
  have c1:w1.cell? ⟨lb,off+i,none⟩=some (.slice (ad i) (B.L i).length (cp i)):=(HBW0.out.cell (p:=⟨lb,off+i,none⟩) hlb).trans (HC0.out i hi)
  have c2:w1.cell? ⟨lb,off+k,none⟩=some (.slice (ad k) (B.L k).length (cp k)):=(HBW0.out.cell (p:=⟨lb,off+k,none⟩) hlb).trans (HC0.out k hk)
  obtain⟨u,hu⟩:∃u,FC o (B.L i) (B.L k)=u:=⟨_,rfl⟩
  obtain⟨v,hv⟩:∃v,GN o (B.L i) (B.L k)=v:=⟨_,rfl⟩
  obtain⟨sk,hsk⟩:∃b,eQ o (B.L i).length (lf (B.L i)) (B.L k).length (lf (B.L k))=b:=⟨_,rfl⟩
  have hsp:∀W:World,Below w1.heap.size w1 W→Calls Tryz.prog 68 #[.int .i64 o,.slice (ad i) (B.L i).length (cp i),.slice (ad k) (B.L k).length (cp k)] W fun r w'=>r= .returned (.tuple #[.agg #[.int .i64 u.c,.int .i64 u.m.x,.int .i64 u.m.y,.int .i64 u.m.d,.int .i64 u.m.e],.agg #[.int .i64 v.c,.int .i64 v.m.x,.int .i64 v.m.y,.int .i64 v.m.d,.int .i64 v.m.e],.bool sk])∧Below W.heap.size W w':=fun W hW=>by
    have:=yR W o (ad i) (B.L i).length (cp i) (lf (B.L i)) (ad k) (B.L k).length (cp k) (lf (B.L k)) ((HL1.out.2.2.2 i hi).below hW) ((HL1.out.2.2.2 k hk).below hW)
    rw[hsk,show eR o (B.L i).length (lf (B.L i)) (B.L k).length (lf (B.L k))=u from hu,show eS o (B.L i).length (lf (B.L i)) (B.L k).length (lf (B.L k))=v from hv]at this
    exact this
  have HSP:=aA hsp
  have HU:=aA hu
  have HV:=aA hv
  clear hsp hu hv hsk hvl
  have hbx:w.heap.size<w1.heap.size:=cQ w1 _ k0
  have hlb1:lb<w1.heap.size:=by omega
  have hS0:SX w1 w.heap.size (.slice (some ⟨lb,off,none⟩) B.m lc) lb (off+i) (off+k) (.slice (ad i) (B.L i).length (cp i)) (.slice (ad k) (B.L k).length (cp k)) w1:=⟨bQ _ _,k0,c1,c2⟩
  refine Code.wp_mono (Q:=NoPanic fun e a z=>e=Exit.normal∧∃(g10 g11:Nat) (x20 x21 x22 x23 x24 x25 x26 x27 x28 x29 x30 x31 x32 x33 x34 x35:Value),a={tmps:=#[.int .i64 o,.agg #[.slice (some ⟨lb,off,none⟩) B.m lc,.slice pa B.m pc,.bool d],.int .i64 (i:Int),.int .i64 (k:Int),undef,.pointer (some ⟨w.heap.size,0,none⟩),undef,undef,.pointer (some ⟨w.heap.size+1,0,none⟩),.bool false,.pointer (some ⟨g10,0,none⟩),.pointer (some ⟨g11,0,none⟩),.bool sk,undef,undef,undef,undef,undef,undef,undef,x20,x21,x22,x23,x24,x25,x26,x27,x28,x29,x30,x31,x32,x33,x34,x35,undef,undef,undef,undef,undef,undef,undef,undef,undef,undef,undef,undef,undef,undef,undef,undef,undef,undef,undef,undef,undef,undef,undef,undef,undef,undef,undef,undef,undef,undef,undef,undef,undef,undef,undef,undef,undef,undef,undef,undef,undef,undef,undef,undef,undef,undef,undef,undef,undef,undef,undef,undef,undef,undef,undef,undef,undef,undef,undef,undef,undef,undef,undef,undef,undef,undef,undef,undef,undef,undef,undef],defers:=[]}∧C5 z g10 u∧C5 z g11 v∧Below w1.heap.size w1 z) ?_ ?_
  rotate_left
  · go_region_held3 (fun q=>Below w1.heap.size w1 q∧q.cell? ⟨w.heap.size,0,none⟩=some (.slice (some ⟨lb,off,none⟩) B.m lc)∧q.cell? ⟨lb,off+i,none⟩=some (.slice (ad i) (B.L i).length (cp i))∧q.cell? ⟨lb,off+k,none⟩=some (.slice (ad k) (B.L k).length (cp k))) (first|(((with_reducible refine YQ hS0 hbx hlb1 ?_);(repeat(first|with_reducible exact HB4.out|with_reducible refine WD ?_|((with_reducible refine WE ?_ ?_);rotate_left;(first|with_reducible exact Nat.le_refl _|with_reducible exact hs4|with_reducible exact Nat.le_succ _|with_reducible exact Nat.le_succ_of_le hs4)))));done)|with_reducible exact hS0|with_reducible exact wC hS0|with_reducible exact jW hS0|with_reducible exact tI hb4 (by assumption)|with_reducible exact wC (jW hS0)|with_reducible exact jW (jW hS0)|with_reducible exact wC (jW (jW hS0))) (first|(go_at_call 68;refine(HSP.out _ ?_).mono ?_;(first|with_reducible exact(bQ _ w1).drew|with_reducible exact(aC w1 (.cells #[.int .i64 0,.int .i64 0,.int .i64 0,.int .i64 0,.int .i64 0] 86)).drew|with_reducible exact(aN w1 (.cells #[.int .i64 0,.int .i64 0,.int .i64 0,.int .i64 0,.int .i64 0] 86) (.cells #[.int .i64 0,.int .i64 0,.int .i64 0,.int .i64 0,.int .i64 0] 86)).drew);rintro r w4 ⟨rfl,hb4⟩;(have hB4:Below w1.heap.size w1 w4:=by first|with_reducible exact aB (bQ _ w1).drew hb4|with_reducible exact aB (aC w1 (.cells #[.int .i64 0,.int .i64 0,.int .i64 0,.int .i64 0,.int .i64 0] 86)).drew hb4|with_reducible exact aB (aN w1 (.cells #[.int .i64 0,.int .i64 0,.int .i64 0,.int .i64 0,.int .i64 0] 86) (.cells #[.int .i64 0,.int .i64 0,.int .i64 0,.int .i64 0,.int .i64 0] 86)).drew hb4);(try(first|((with_reducible have hz4:=SG (w:=w1) hb4);obtain⟨⟨⟨z0,z1,z2,z3,z4⟩,zf⟩,⟨⟨y0,y1,y2,y3,y4⟩,yf⟩⟩:=hz4;have hl4:w1.heap.size<w4.heap.size:=cQ w4 _ z0;have hl5:w1.heap.size+1<w4.heap.size:=cQ w4 _ y0)|((with_reducible have hz4:=PQ (w:=w1) hb4);obtain⟨⟨z0,z1,z2,z3,z4⟩,zf⟩:=hz4;have hl4:w1.heap.size<w4.heap.size:=cQ w4 _ z0;have hn4:w4.heap.size≠w1.heap.size:=Nat.ne_of_gt hl4;have hn5:w1.heap.size≠w4.heap.size:=Nat.ne_of_lt hl4;obtain⟨⟨a0,a1,a2,a3,a4⟩,af⟩:=bH.below (⟨⟨z0,z1,z2,z3,z4⟩,zf⟩:bH w4 w1.heap.size ⟨0,⟨0,0,0,0⟩⟩) (aC w4 (.cells #[.int .i64 0,.int .i64 0,.int .i64 0,.int .i64 0,.int .i64 0] 86));obtain⟨⟨b0,b1,b2,b3,b4⟩,bf⟩:=bH.below (⟨⟨z0,z1,z2,z3,z4⟩,zf⟩:bH w4 w1.heap.size ⟨0,⟨0,0,0,0⟩⟩) (aC w4 (.cells #[.int .i64 u.c,.int .i64 u.m.x,.int .i64 u.m.y,.int .i64 u.m.d,.int .i64 u.m.e] 86)))));have hs4:=hB4.size;have HB4:=aA hB4;clear hB4))
    all_goals(
      refine NoPanic.normal ⟨rfl,_,_,_,_,_,_,_,_,_,_,_,_,_,_,_,_,_,_,rfl,⟨by go_simp,by go_simp,by go_simp,by go_simp,by go_simp⟩,⟨by go_simp,by go_simp,by go_simp,by go_simp,by go_simp⟩,?_⟩
      (repeat(first|with_reducible exact HB4.out|with_reducible refine WD ?_|((with_reducible refine WE ?_ ?_);rotate_left;(first|with_reducible exact Nat.le_refl _|with_reducible exact hs4|with_reducible exact Nat.le_succ _|with_reducible exact Nat.le_succ_of_le hs4)))))
  · rintro e a z hqz
    obtain⟨rfl,g10,g11,x20,x21,x22,x23,x24,x25,x26,x27,x28,x29,x30,x31,x32,x33,x34,x35,rfl,hu5,hv5,hbz⟩:=NoPanic.imp _ _ _ hqz
    have HU5:=aA hu5
    have HV5:=aA hv5
    have dz:Below z.heap.size z z.drew:=(bQ _ _).drew
    have HBZ:=aA (aB hbz dz)
    have HSZ:Hid (SV w.heap.size (.slice (some ⟨lb,off,none⟩) B.m lc) lb (off+i) (off+k) (.slice (ad i) (B.L i).length (cp i)) (.slice (ad k) (B.L k).length (cp k)) z.drew):=⟨(HBZ.out.cell (p:=⟨w.heap.size,0,none⟩) hbx).trans k0,(HBZ.out.cell (p:=⟨lb,off+i,none⟩) hlb1).trans c1,(HBZ.out.cell (p:=⟨lb,off+k,none⟩) hlb1).trans c2⟩
    have RA:=aA ((HL1.out.2.2.2 i hi).below HBZ.out)
    have RC:=aA ((HL1.out.2.2.2 k hk).below HBZ.out)
    obtain⟨s,sb,hs⟩:∃s sb,JO o (B.L i) (B.L k)=(s,sb):=⟨_,_,rfl⟩
    have hc:=VJ (w:=z.drew) o (A:=B.L i) (B:=B.L k) RA.out RC.out
    rw[show dH o (lf (B.L i)) (B.L i).length (lf (B.L k)) (B.L k).length=(s,sb)from hs]at hc
    have HC:=aA hc
    have HS:=aA hs
    clear hqz hu5 hv5 hbz dz hc hs k0 k1 k2 kz c1 c2 RA RC
    cases sb
    · have HE:=aA (EP (g:=g) HS.out)
      have hS:=HSZ.out
      go_wp2_with fail
      go_region_held3 (fun q=>SV w.heap.size (.slice (some ⟨lb,off,none⟩) B.m lc) lb (off+i) (off+k) (.slice (ad i) (B.L i).length (cp i)) (.slice (ad k) (B.L k).length (cp k)) q) (first|with_reducible exact hS|with_reducible exact SV.below hS b5) (first|(go_at_call 69;refine HC.out.mono ?_;rintro e w5 ⟨za,zc,rfl,b5,hz⟩))
      have HB5:=aA (aB HBZ.out b5)
      have HBXe:=aA (HBX0.out.below HB5.out)
      have HRXe:=aA (HRX0.out.below HB5.out)
      have HBE:=aA (aB HBW0.out HB5.out)
      clear hS b5 hz HC
      obtain⟨⟨e0,e1,e2⟩,ez⟩:=HBXe.out
      obtain⟨⟨f0,f1,f2⟩,fz⟩:=HRXe.out
      go_wp2
      refine cV (v:=.tuple #[.agg #[.slice (some ⟨lb,off,none⟩) B.m lc,.slice pa B.m pc,.bool d],.bool false]) (by simp[results,Tryz.results33,go_sem, *]) rfl ?_
      exact .inl ⟨HE.out,rfl,fD HBE.out (Nat.le_succ _) _ _ _⟩
    · have hS:=HSZ.out
      go_wp2_with fail
      go_region_held3 (fun q=>SV w.heap.size (.slice (some ⟨lb,off,none⟩) B.m lc) lb (off+i) (off+k) (.slice (ad i) (B.L i).length (cp i)) (.slice (ad k) (B.L k).length (cp k)) q) (first|with_reducible exact hS|with_reducible exact SV.below hS b5) (first|(go_at_call 69;refine HC.out.mono ?_;rintro e w5 ⟨za,zc,rfl,b5,hz⟩))
      have HZ5:=aA hz
      have HB5:=aA (aB HBZ.out b5)
      have HOKS:=aA (RU HS.out)
      have HU5b:=aA ((HU5.out.below (bQ _ _).drew).below b5)
      have HV5b:=aA ((HV5.out.below (bQ _ _).drew).below b5)
      have HL5:=aA (HL1.out.below HB5.out)
      have HBX5:=aA (HBX0.out.below HB5.out)
      obtain⟨⟨a0,a1,a2⟩,az⟩:=HBX5.out
      obtain⟨R,hR⟩:∃R,eE o B.m (lN B.L) (fN B.L) 300 (kP s)=R:=⟨_,rfl⟩
      have hcl:=UB w5 o za zc s (some ⟨lb,off,none⟩) B.m lc ad (lN B.L) cp (fN B.L) hz HL5.out HOK.out.ho.1 HOK.out.ho.2 HOKS.out HOK.out.l
      rw[hR]at hcl
      have HCL:=aA hcl
      have HRA:Hid (dA o s B.m (lN B.L) (fN B.L)=R):=(MH HOK.out.ho HOKS.out HOK.out.l).trans hR
      clear hS b5 hz HC hcl hR HU5 HV5
      go_wp2_with fail
      refine HCL.out.mono ?_
      rintro e w6 ⟨b6,h6⟩
      have HB6:=aA (aB HB5.out b6)
      clear a0 a1 a2 az
      rcases h6 with⟨S,qa,qc,adQ,cpQ,ra,rc,rfl,rfl,hq6,hr6,hf6⟩|⟨rfl,qa,qc,ra,rc,rfl⟩
      rotate_left
      · have HE:=aA (wG (g:=g) HS.out HRA.out)
        have HBXe:=aA (HBX0.out.below HB6.out)
        have HRXe:=aA (HRX0.out.below HB6.out)
        have HBE:=aA (aB HBW0.out HB6.out)
        clear b6 HCL
        obtain⟨⟨e0,e1,e2⟩,ez⟩:=HBXe.out
        obtain⟨⟨f0,f1,f2⟩,fz⟩:=HRXe.out
        go_wp2
        refine cV (v:=.tuple #[.agg #[.slice (some ⟨lb,off,none⟩) B.m lc,.slice pa B.m pc,.bool d],.bool false]) (by simp[results,Tryz.results33,go_sem, *]) rfl ?_
        exact .inl ⟨HE.out,rfl,fD HBE.out (Nat.le_succ _) _ _ _⟩
      have HQ6:=aA hq6
      have HR6:=aA hr6
      have HF6:=aA hf6
      have hS300:S.r.length≤300:=(dB HRA.out).1.r.2
      have HBXe:=aA (HBX0.out.below HB6.out)
      have HRXe:=aA (HRX0.out.below HB6.out)
      have HBE:=aA (aB HBW0.out HB6.out)
      have HU6:=aA (HU5b.out.below b6)
      have HV6:=aA (HV5b.out.below b6)
      have hs56:w5.heap.size≤w6.heap.size:=b6.size
      have hs15:w1.heap.size≤w5.heap.size:=HB5.out.size
      clear b6 HCL hq6 hr6 hf6 HU5b HV5b
      by_cases h0:S.r.length=0
      · have HE:=aA (wH (g:=g) HS.out HRA.out h0)
        have hn0:¬(0:Int)<(S.r.length:Int):=by omega
        have hq0:((S.r.length:Int)==0)=true:=by simpa using h0
        clear h0
        obtain⟨⟨e0,e1,e2⟩,ez⟩:=HBXe.out
        obtain⟨⟨f0,f1,f2⟩,fz⟩:=HRXe.out
        go_wp2
        refine cV (v:=.tuple #[.agg #[.slice (some ⟨lb,off,none⟩) B.m lc,.slice pa B.m pc,.bool d],.bool true]) (by simp[results,Tryz.results33,go_sem, *]) rfl ?_
        exact .inr ⟨B,_,_,LS,PS,HE.out,rfl,aO (fD HBE.out (Nat.le_succ _) _ _ _),HW.out.below (fD HBE.out (Nat.le_succ _) _ _ _)⟩
      by_cases h12:B.m=12
      · have HE:=aA (wD (g:=g) HS.out HRA.out h0 h12)
        have hn0:(0:Int)<(S.r.length:Int):=by omega
        have hm12:((B.m:Int)==12)=true:=by simp[h12]
        clear h0 h12
        obtain⟨⟨e0,e1,e2⟩,ez⟩:=HBXe.out
        obtain⟨⟨f0,f1,f2⟩,fz⟩:=HRXe.out
        go_wp2
        refine cV (v:=.tuple #[.agg #[.slice (some ⟨lb,off,none⟩) B.m lc,.slice pa B.m pc,.bool d],.bool false]) (by simp[results,Tryz.results33,go_sem, *]) rfl ?_
        exact .inl ⟨HE.out,rfl,fD HBE.out (Nat.le_succ _) _ _ _⟩
      have hn0:(0:Int)<(S.r.length:Int):=by omega
      have hm12:((B.m:Int)==12)=false:=by simp;omega
      have hq0:((S.r.length:Int)==0)=false:=beq_eq_false_iff_ne.2 (by omega)
      have HH:=aA (And.intro h0 h12)
      have hm11:B.m≤11:=by omega
      clear h0 h12
      obtain⟨⟨gok,gn,gv⟩,gu1,gv1⟩:=oZ HS.out
      have HGU:Hid (u.m.ok=true∧1≤u.c∧u.c≤100):=by rw[←HU.out];exact gu1
      have HGV:Hid (v.m.ok=true∧1≤v.c∧v.c≤100):=by rw[←HV.out];exact gv1
      have HQok:Hid (∀t,t<B.m→cJ (S.q t)=true):=fun t _=>fO (by have:=((dB HRA.out).1.q t).2;omega) ((dB HRA.out).1.q t).1
      obtain⟨E,hE⟩:∃E,lL g B.P i k u v B.m S.q=E:=⟨_,rfl⟩
      have hcm:=UD w6 o g B.m hg m12 (.slice (some ⟨lb,off,none⟩) B.m lc) rfl pa pc d A C AD CP B.P (HP0.out.below HBE.out) HOK.out.p i k hi hk u v HGU.out HGV.out qa qc adQ cpQ S.q HQ6.out HQok.out (some ⟨lb,off,none⟩) lc rfl
      rw[hE]at hcm
      have HCM:=aA hcm
      have HED:Hid (lL g B.P i k (FC o (B.L i) (B.L k)) (GN o (B.L i) (B.L k)) B.m S.q=E):=by rw[HU.out,HV.out];exact hE
      obtain⟨⟨a0,a1,a2⟩,az⟩:=HBXe.out
      obtain⟨u0,u1,u2,u3,u4⟩:=HU6.out
      obtain⟨v0,v1,v2,v3,v4⟩:=HV6.out
      clear gok gn gv gu1 gv1 hcm hE
      go_wp2_with fail
      refine HCM.out.mono ?_
      rintro e w7 ⟨b7,h7⟩
      have HB7:=aA (aB HB6.out b7)
      have HBX7:=aA (HBXe.out.below b7)
      have HRX7:=aA (HRXe.out.below b7)
      clear a0 a1 a2 az u0 u1 u2 u3 u4 v0 v1 v2 v3 v4 HBXe HRXe
      rcases h7 with⟨RW,ya,yc,yad,ycp,ylo,yRb,yB,rfl,rfl,hylo,hyo⟩|⟨rfl,ya,yc,rfl⟩
      rotate_left
      · have HE:=aA (wF (g:=g) HS.out HRA.out HH.out.1 HH.out.2 HED.out)
        have HBXe:=HBX7
        have HRXe:=HRX7
        have HBE7:=aA (aB HBE.out b7)
        clear b7 HCM
        obtain⟨⟨e0,e1,e2⟩,ez⟩:=HBXe.out
        obtain⟨⟨f0,f1,f2⟩,fz⟩:=HRXe.out
        go_wp2
        refine cV (v:=.tuple #[.agg #[.slice (some ⟨lb,off,none⟩) B.m lc,.slice pa B.m pc,.bool d],.bool false]) (by simp[results,Tryz.results33,go_sem, *]) rfl ?_
        exact .inl ⟨HE.out,rfl,fD HBE7.out (Nat.le_succ _) _ _ _⟩
      have HE:=aA (wE (g:=g) HS.out HRA.out HH.out.1 HH.out.2 HED.out)
      have HBE7:=aA (aB HBE.out b7)
      have HR7:=aA (HR6.out.below b7)
      have hs67:w6.heap.size≤w7.heap.size:=b7.size
      obtain⟨Y,hY⟩:∃Y:Nat→Prop,Y=fun b=>Y0 b∨b=w.heap.size∨b=w.heap.size+1:=⟨_,rfl⟩
      have hYs:∀b,Y b→b<w.heap.size+2:=fun b q=>by rw[hY]at q;rcases q with q|q|q<;>(first|(have:=hY0 b q;omega)|omega)
      have hYu:∀b,Y0 b→Y b:=fun b q=>by rw[hY];exact .inl q
      have hY1:Y w.heap.size:=by rw[hY];exact .inr (.inl rfl)
      have hY2:Y (w.heap.size+1):=by rw[hY];exact .inr (.inr rfl)
      have hsw1:w.heap.size+1<w1.heap.size:=HRX0.out.lt
      have HBK:=aA ((HW.out.yet (Y':=Y) (fun b hb q=>by rw[hY]at q;rcases q with q|q|q<;>(first|exact q|omega))).below HBE7.out)
      have HOL:=aA HW.out.rL.lt
      have HOP:=aA HW.out.rP.lt
      have HRL:Hid (xC (NB Y (.slice (some ⟨lb,off,none⟩) B.m lc) (.slice pa B.m pc)) w7 ra rc S.r):=(VF HR7.out HF6.out).mono (fun b _ hb=>NB.far (m:=w5.heap.size) (fun k e=>by have:=(HOL.out k e).2;omega) (fun k e=>by have:=(HOP.out k e).2;omega) (fun k q=>by have:=hYs k q;omega) hb)
      have HRS:=aA (wA (hi:=w7.heap.size) hyo (Nat.le_refl _))
      have HYL:=aA hylo
      have hmax:B.m+1≤maxLen:=by unfold maxLen;omega
      have hlo7:lo≤w7.heap.size:=by omega
      obtain⟨⟨a0,a1,a2⟩,az⟩:=HBX7.out
      clear b7 hyo hylo HCM hY
      have HYs:=aA hYs
      have HYb:=aA (And.intro hY1 hY2)
      have HYU:=aA hYu
      clear hYs hY1 hY2 hYu
      have hn1:w.heap.size+1≠w.heap.size:=by omega
      have hn2:w.heap.size≠w.heap.size+1:=by omega
      have HNX:Hid (∀(g1 cap1:Nat) (w8:World),w8.ownsRow lo 41 1 (.slice (some ⟨g1,0,none⟩) (B.m+1) cap1) (B.m+1) (LS++[.slice ra S.r.length rc])→(w7.alloc (.cells #[.slice ra S.r.length rc] 41)).grownBy w8 (Value.ownBlock (.slice (some ⟨lb,off,none⟩) B.m lc))→(Value.ownBlock (.slice (some ⟨lb,off,none⟩) B.m lc)=some g1∨g1=(w7.alloc (.cells #[.slice ra S.r.length rc] 41)).heap.size)→
          M8 Y w lo (.slice (some ⟨lb,off,none⟩) B.m lc) (.slice pa B.m pc) d g B S.r (LS++[.slice ra S.r.length rc]) PS ya yc yad ycp RW g1 cap1 w8):=fun g1 cap1 w8 ho hg ha=>by
        have f8:Fr (fun k=>Value.ownBlock (.slice (some ⟨lb,off,none⟩) B.m lc)=some k) w7 w8:=((Fr.refl _ w7).next (aC w7 _)).grown hg (fun k e _=>e)
        have x8:=HBX7.out.fr f8 (fun q=>by have:=(HOL.out _ q).2;omega)
        have r8:=HRX7.out.fr f8 (fun q=>by have:=(HOL.out _ q).2;omega)
        have k8:=HBK.out.appL (fun b q=>by have:=HYs.out b q;omega) HRL.out hg ho ha
        have sY:Fr Y w8 (w8.setCell ⟨w.heap.size,0,none⟩ (.slice (some ⟨g1,0,none⟩) (B.m+1) cap1)):=(Fr.refl Y w8).set (fun _=>HYb.out.1)
        have sB:Fr (fun b=>b=w.heap.size) w8 (w8.setCell ⟨w.heap.size,0,none⟩ (.slice (some ⟨g1,0,none⟩) (B.m+1) cap1)):=(Fr.refl _ w8).set (fun _=>rfl)
        have hs78:=f8.size
        have hg1:Value.ownBlock (.slice (some ⟨lb,off,none⟩) B.m lc)=some g1∨g1=w7.heap.size+1:=ha.imp id (fun e=>by rw[e];simp)
        refine⟨x8,k8.fr sY (fun b q=>q),x8.set0 _,r8.fr sB (fun q=>by omega),?_,((aO HBE7.out).trans (f8.mono (fun k _ e=>.inl e))).set (fun q=>absurd q (Nat.lt_irrefl _)),by omega,hg1.imp id (fun e=>by omega)⟩
        refine((HRS.out.fr f8 (fun b hb q=>by have:=(HOL.out _ q).2;have:=hb.1;have:=HYL.out;omega)).fr sB (fun b hb q=>by have:=hb.1;have:=HYL.out;omega)).mono (fun b _ hb=>⟨fun q=>?_,fun q=>?_,fun q=>?_⟩)
        · have e:g1=b:=by simpa[Value.ownBlock]using q
          have:=hb.1
          have:=hb.2
          have:=HYL.out
          rcases hg1 with q'|q'
          · have:=(HOL.out _ q').2;omega
          · omega
        · have:=(HOP.out _ q).2
          have:=hb.1
          have:=HYL.out
          omega
        · have:=HYs.out _ q
          have:=hb.1
          have:=HYL.out
          omega
      have hsw7:w.heap.size≤w7.heap.size:=HBE7.out.size
      clear HBX0 HRX0 HBW0 HL0 HP0 HC0 HL1 HSP HBZ HSZ HB5 HL5 HBX5 HB6 HBE HU6 HV6 HH HGU HGV HQok HQ6 HR6 HF6 HR7 HED HRA HS HOKS HU HV HB7
      go_wp2_with (first|(at_builtin;refine wpList_append_lies _ rfl (.tmp 95) (.tmp 97) 24 rfl lo 41 i0 _ 1 24 Tryz.underlying24 hi0 hz0 hz1 hz2 rfl (by omega) _ B.m LS rfl (HBK.out.rL.alloc _) ⟨w7.heap.size,0,none⟩ 1 1 [.slice ra S.r.length rc] rfl rfl (World.news_of_block (heap_alloc_new w7 _)) (gQ _ _ _) (by omega) hmax (by omega) (by simp;omega) _ rfl ?_;intro g1 cap1 w8 hown2 hgrow2 hat2 hlt2;have HP8:=aA (HNX.out g1 cap1 w8 hown2 hgrow2 hat2);have HN8:=aA (HP8.out.news);obtain⟨⟨e0,e1,e2⟩,ez⟩:=HP8.out.box0;clear a0 a1 a2 az hown2 hgrow2 hat2 hlt2)|(at_builtin;refine wpList_append_lies _ rfl (.tmp 101) (.tmp 103) 25 rfl lo 24 i1 _ 1 24 Tryz.underlying25 hi1 hy0 hy1 hy2 rfl (by omega) _ B.m PS rfl (HP8.out.book.rP.alloc _) ⟨w8.heap.size,0,none⟩ 1 1 [.slice ya g yc] rfl rfl HN8.out (gQ _ _ _) (by omega) hmax (by omega) (by have:=HP8.out.lo8;simp;omega) _ rfl ?_;intro g2 cap2 w10 hown3 hgrow3 hat3 hlt3;have HP9:=aA (HP8.out.next HYs.out HYb.out (by omega) hown3 hgrow3 hat3);obtain⟨⟨e0,e1,e2⟩,ez⟩:=HP9.out.box0;obtain⟨⟨f0,f1,f2⟩,fz⟩:=HP9.out.res;clear hown3 hgrow3 hat3 hlt3))
      refine cV (v:=.tuple #[.agg #[.slice (some ⟨g1,0,none⟩) (B.m+1) cap1,.slice (some ⟨g2,0,none⟩) (B.m+1) cap2,.bool d],.bool true]) (by simp[results,Tryz.results33,go_sem, *]) rfl ?_
      exact HP9.out.fin HYb.out HYU.out HE.out (by omega)
end Go.Proofs.YtelkehjdfcoeiaaGreat
