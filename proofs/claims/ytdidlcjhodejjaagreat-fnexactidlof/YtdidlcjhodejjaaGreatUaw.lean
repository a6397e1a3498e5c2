/-
  The first of some terms that is wanted, and whether there is one: the program.
-/
import Derived.Test.YtdidlcjhodejjaaGreatUav
import Derived.Shelf.Abstract
import Derived.Test.YtdidlcjhodejjaaGreatUaf
namespace Go.Proofs.YtdidlcjhodejjaaGreat
open Go.RowKit Go.Deep Go.Joins
set_option linter.unusedVariables false
def idxF (p:T→Bool) (f:Nat→T):Nat→Int
 | 0=>-1
 | n+1=>if 0≤idxF p f n then idxF p f n else if p (f n)=true then (n:Int) else -1
theorem idx_none {p:T→Bool} {f:Nat→T}:∀ {k:Nat},(∀ j,j<k→p (f j)=false)→idxF p f k=-1
 | 0,_=>rfl
 | k+1,h=>by
  have h1:=idx_none (p:=p) (f:=f) (k:=k) (fun j hj=>h j (by omega))
  unfold idxF
  rw [h1,if_neg (by omega),if_neg (by rw [h k (by omega)];decide)]
theorem idx_hit {p:T→Bool} {f:Nat→T} {k:Nat} (h:∀ j,j<k→p (f j)=false) (hk:p (f k)=true):∀ n,k<n→idxF p f n=(k:Int)
 | 0,h0=>by omega
 | n+1,h0=>by
  by_cases e:k=n
  ·subst e
   unfold idxF
   rw [idx_none h,if_neg (by omega),if_pos hk]
  ·have h1:=idx_hit h hk n (by omega)
   unfold idxF
   rw [h1,if_pos (by omega)]
theorem idx_iff {p:T→Bool} {f:Nat→T}:∀ {n:Nat},0≤idxF p f n ↔ ∃ i,i<n∧p (f i)=true
 | 0=>⟨fun h=>absurd (show (0:Int)≤-1 from h) (by decide),fun ⟨_,h,_⟩=>by omega⟩
 | n+1=>by
  have ih:=idx_iff (p:=p) (f:=f) (n:=n)
  unfold idxF
  by_cases h:0≤idxF p f n
  ·rw [if_pos h]
   exact ⟨fun _=>by obtain ⟨i,hi,hp⟩:=ih.1 h;exact ⟨i,by omega,hp⟩,fun _=>h⟩
  ·rw [if_neg h]
   by_cases hp:p (f n)=true
   ·rw [if_pos hp]
    exact ⟨fun _=>⟨n,by omega,hp⟩,fun _=>by omega⟩
   ·rw [if_neg hp]
    refine ⟨fun hh=>absurd hh (by decide),fun ⟨i,hi,hpi⟩=>?_⟩
    by_cases e:i=n
    ·subst e;exact absurd hpi hp
    ·exact absurd (ih.2 ⟨i,by omega,hpi⟩) h
def WantsK (g:Nat) (lb:Array Value) (p:T→Bool) (Q:World→Prop) (f:Nat→T) (n:Nat):Prop:=
 ∀ (k:Nat) (W:World),k<n→Q W→Calls Tryz.prog g (#[.agg #[.int .i64 (f k).c,.int .i64 (f k).m.x,.int .i64 (f k).m.y,.int .i64 (f k).m.d,.int .i64 (f k).m.e]] ++ lb) W fun r w'=>r=.returned (.bool (p (f k)))∧Below W.heap.size W w'
set_option maxRecDepth 100000 in
set_option maxHeartbeats 8000000 in
theorem idxI (w:World) (a:Option Addr) (n cap:Nat) (f:Nat→T) (g:Nat) (lb:Array Value) (p:T→Bool) (Q:World→Prop) (eg:∀ args w,(callFunc g args).run Tryz.prog w=.ok (.enter g args) w) (hW:WantsK g lb p Q f n) (hQ:∀ W',Below w.heap.size w W'→Q W') (h:Rd w a n cap f) :
  Calls Tryz.prog 118 #[.slice a n cap,.func (.func g) #[] lb] w fun r w'=>r=.returned (.int .i64 (idxF p f n))∧Below w.heap.size w w':=by
 have HA:=Hid.mk' h
 have HW:=Hid.mk' hW
 have HQ:=Hid.mk' hQ
 have hn:(n:Int)≤140737488351232:=by have:=h.2.1;omega
 clear h hW hQ
 go_enter Tryz.func118,Tryz.ntmps118
 go_wp2
 go_loopw [8] (fun v wr=>∃ k:Nat,k≤n∧v=.int .i64 (k:Int)∧Below w.heap.size w wr∧∀ j,j<k→p (f j)=false) (fun v _=>n - (intOf v).toNat)
 case atStart=>exact ⟨0,Nat.zero_le _,rfl,Below.refl _ _,fun j hj=>by omega⟩
 case round=>
  obtain ⟨k,hk,rfl,hB,hJ⟩:=hrel
  have HJ:=Hid.mk' hJ
  have HB:=Hid.mk' hB
  clear hJ
  by_cases hlt:k<n
  ·have hkn:(k:Int)<(n:Int):=by omega
   have hri:=HA.out.below hB
   rcases hri.2.2 with h0 | ⟨b,off,hpe,hblt,hcl⟩
   ·omega
   obtain ⟨g0,g1,g2,g3,g4⟩:=hcl k hlt
   have HCALL:=Hid.mk' (HW.out k wr hlt (HQ.out _ hB))
   clear hcl hri hB
   subst hpe
   cases hpk:p (f k)
   ·have HP:=Hid.mk' hpk
    go_wp2_with fail
    refine HCALL.out.mono ?_
    rw [hpk]
    rintro r w4 ⟨rfl,hb4⟩
    have HB4:=Hid.mk' (bel_next HB.out hb4)
    clear hb4 g0 g1 g2 g3 g4 hpk
    go_wp2
    go_roundw
    case rel=>exact ⟨k+1,by omega,by go_num,HB4.out,fun j hj=>by
     by_cases e:j=k
     ·rw [e];exact HP.out
     ·exact HJ.out j (by omega)⟩
    case measure=>simp [intOf];omega
   ·have HE:Hid (idxF p f n=(k:Int)):=idx_hit HJ.out hpk n hlt
    go_wp2_with fail
    refine HCALL.out.mono ?_
    rw [hpk]
    rintro r w4 ⟨rfl,hb4⟩
    have HB4:=Hid.mk' (bel_next HB.out hb4)
    clear hb4 g0 g1 g2 g3 g4 hpk
    go_wp2
    go_ret
    exact ⟨congrArg (fun z=>Ending.returned (Value.int IntKind.i64 z)) HE.out.symm,HB4.out⟩
  ·have hnl:¬ (k:Int)<(n:Int):=by omega
   have hie:k=n:=by omega
   subst hie
   have HE:Hid (idxF p f k=-1):=idx_none HJ.out
   go_wp2
   go_ret
   exact ⟨congrArg (fun z=>Ending.returned (Value.int IntKind.i64 z)) HE.out.symm,HB.out⟩
set_option maxHeartbeats 2000000 in
theorem first1 (t:T) (m:M) (B:Nat) (W:World) (h:M4 W B m.x m.y m.d m.e) :
  Calls Tryz.prog 119 #[.agg #[.int .i64 t.c,.int .i64 t.m.x,.int .i64 t.m.y,.int .i64 t.m.d,.int .i64 t.m.e],.pointer (some ⟨B,0,none⟩)] W fun r w'=>r=.returned (.bool (M.dvd t.m m))∧Below W.heap.size W w':=by
 obtain ⟨bv,hbv⟩:∃ bv,M.dvd ⟨t.m.x,t.m.y,t.m.d,t.m.e⟩ ⟨m.x,m.y,m.d,m.e⟩=bv:=⟨_,rfl⟩
 rw [show M.dvd t.m m=bv from hbv]
 have HD:=Hid.mk' hbv
 have B1w:=Hid.mk' (bel_one W (.cells #[.int .i64 t.c,.int .i64 t.m.x,.int .i64 t.m.y,.int .i64 t.m.d,.int .i64 t.m.e] 42))
 have hlt:=h.lt
 obtain ⟨c1,c2,c3,c4⟩:=h
 clear hbv
 go_enter Tryz.func119,Tryz.ntmps119
 go_wp2_with fail
 refine (monDividesI_of HD.out _).mono ?_
 rintro r w1 ⟨rfl,hb⟩
 have HB:=Hid.mk' (bel_next B1w.out hb)
 clear hb c1 c2 c3 c4
 go_wp2
 go_ret
 exact ⟨rfl,HB.out⟩
set_option maxRecDepth 100000 in
set_option maxHeartbeats 4000000 in
theorem redFirstI (w:World) (a:Option Addr) (n cap:Nat) (f:Nat→T) (m:M) (h:Rd w a n cap f) :
  Calls Tryz.prog 75 #[.slice a n cap,.agg #[.int .i64 m.x,.int .i64 m.y,.int .i64 m.d,.int .i64 m.e]] w fun r w'=>r=.returned (.int .i64 (idxF (fun t=>M.dvd t.m m) f n))∧Below w.heap.size w w':=by
 have HI:=Hid.mk' (idxI (w.alloc (.cells #[.int .i64 m.x,.int .i64 m.y,.int .i64 m.d,.int .i64 m.e] 40)) a n cap f 119 #[.pointer (some ⟨w.heap.size,0,none⟩)] (fun t=>M.dvd t.m m) (fun W=>M4 W w.heap.size m.x m.y m.d m.e) (enters_of Tryz.func119 (by kernel_rfl) rfl) (fun k W hk hQ=>first1 (f k) m _ W hQ) (fun W' hb=>(M4.box w 40 m.x m.y m.d m.e).below hb) (h.below (bel_one w _)))
 have HB0:=Hid.mk' (bel_one w (.cells #[.int .i64 m.x,.int .i64 m.y,.int .i64 m.d,.int .i64 m.e] 40))
 clear h
 go_enter Tryz.func75,Tryz.ntmps75
 go_wp2_with fail
 refine HI.out.mono ?_
 rintro r w1 ⟨rfl,hb⟩
 have HB:=Hid.mk' (bel_next HB0.out hb)
 clear hb HI HB0
 go_wp2
 go_ret
 exact ⟨rfl,HB.out⟩
end Go.Proofs.YtdidlcjhodejjaaGreat
namespace Go.Proofs.YtdidlcjhodejjaaGreat
open Go.RowKit Go.Deep Go.Joins
set_option linter.unusedVariables false
def ldsL (o:Int) (ln:Nat→Nat) (f:Nat→Nat→T):Nat→List T
 | 0=>[]
 | i+1=>ldsL o ln f i ++ [ldAt o ln f i]
theorem ldsL_len (o:Int) (ln:Nat→Nat) (f:Nat→Nat→T):∀ i,(ldsL o ln f i).length=i
 | 0=>rfl
 | i+1=>by unfold ldsL;rw [List.length_append,ldsL_len o ln f i];rfl
theorem ldsL_at (o:Int) (ln:Nat→Nat) (f:Nat→Nat→T):∀ n i,i<n→lf (ldsL o ln f n) i=ldAt o ln f i
 | 0,i,h=>by omega
 | n+1,i,h=>by
  have hl:=ldsL_len o ln f n
  unfold ldsL lf
  by_cases e:i=n
  ·subst e
   rw [List.getD_eq_getElem?_getD,List.getElem?_append_right (by omega),hl]
   simp
  ·have:=ldsL_at o ln f n i (by omega)
   unfold lf at this
   rw [List.getD_eq_getElem?_getD] at this ⊢
   rw [List.getElem?_append_left (by omega)]
   exact this
set_option maxRecDepth 100000 in
set_option maxHeartbeats 4000000 in
theorem redLeadsI_out (w:World) (o:Int) (a:Option Addr) (n cap:Nat) (ho:o<1∨3<o) :
  Calls Tryz.prog 45 #[.int .i64 o,.slice a n cap] w fun r w'=>r=.returned (.tuple #[.slice none 0 0,.bool false])∧Below w.heap.size w w':=by
 go_enter Tryz.func45,Tryz.ntmps45
 go_wp2_with fail
 refine (ordRankI_out _ _ ho).mono ?_
 rintro r w1 ⟨rfl,hb1⟩
 have HB:=Hid.mk' hb1
 clear hb1
 go_wp2
 refine bodyPost_ret (v:=.tuple #[.slice none 0 0,.bool false]) (by simp [results,Tryz.results45,go_sem, *]) rfl ⟨rfl,HB.out⟩
set_option maxRecDepth 100000 in
set_option maxHeartbeats 4000000 in
theorem redLeadsI_no (w:World) (o:Int) (a:Option Addr) (n cap:Nat) (ad:Nat→Option Addr) (ln cp:Nat→Nat) (f:Nat→Nat→T) (h:RdS w a n cap ad ln cp f) (o1:1≤o) (o2:o≤3) (hls:lstOk n ln f=false) :
  Calls Tryz.prog 45 #[.int .i64 o,.slice a n cap] w fun r w'=>r=.returned (.tuple #[.slice none 0 0,.bool false])∧Below w.heap.size w w':=by
 have HH:=Hid.mk' h
 clear h
 go_enter Tryz.func45,Tryz.ntmps45
 go_wp2_with fail
 refine (ordRankI_in _ _ o1 o2).mono ?_
 rintro r w1 ⟨fv,rfl,hb1⟩
 have HB:=Hid.mk' hb1
 have HR:=Hid.mk' (HH.out.below hb1)
 clear hb1
 go_wp2_with fail
 refine (lstOkI _ _ _ _ _ _ _ _ HR.out).mono ?_
 rw [hls]
 rintro r w2 ⟨rfl,hb2⟩
 have HB2:=Hid.mk' (bel_next HB.out hb2)
 clear hb2
 go_wp2
 refine bodyPost_ret (v:=.tuple #[.slice none 0 0,.bool false]) (by simp [results,Tryz.results45,go_sem, *]) rfl ⟨rfl,HB2.out⟩
set_option maxRecDepth 100000 in
set_option maxHeartbeats 8000000 in
theorem redLeadsI (w:World) (o:Int) (a:Option Addr) (n cap:Nat) (ad:Nat→Option Addr) (ln cp:Nat→Nat) (f:Nat→Nat→T) (h:RdS w a n cap ad ln cp f) (o1:1≤o) (o2:o≤3) (hls:lstOk n ln f=true) :
  Calls Tryz.prog 45 #[.int .i64 o,.slice a n cap] w fun r w'=>∃ v,r=.returned (.tuple #[v,.bool true])∧Below w.heap.size w w'∧w'.ownsRow w.heap.size 42 5 v (ldsL o ln f n).length (cellsL (ldsL o ln f n)):=by
 obtain ⟨i0,hi0,hz0,hz1,hz2⟩:=info_parts infoT
 have HH:=Hid.mk' h
 have hall:=lstOk_all hls
 have HO:=Hid.mk' hall.2
 have hn:(n:Int)≤12:=by have:=hall.1;omega
 clear h hall
 go_enter Tryz.func45,Tryz.ntmps45
 go_wp2_with fail
 refine (ordRankI_in _ _ o1 o2).mono ?_
 rintro r w1 ⟨fv,rfl,hb1⟩
 have HB:=Hid.mk' hb1
 have HR:=Hid.mk' (HH.out.below hb1)
 clear hb1
 go_wp2_with fail
 refine (lstOkI _ _ _ _ _ _ _ _ HR.out).mono ?_
 rw [hls]
 rintro r w2 ⟨rfl,hb2⟩
 have HB2:=Hid.mk' (bel_next HB.out hb2)
 clear hb2 HB HR hls
 go_wp2
 go_loopw [8,27] (fun v i wr=>∃ k:Nat,k≤n∧i=.int .i64 (k:Int)∧Below w.heap.size w wr∧wr.ownsRow w.heap.size 42 5 v (ldsL o ln f k).length (cellsL (ldsL o ln f k))) (fun _ i _=>n - (intOf i).toNat)
 case atStart=>exact ⟨0,Nat.zero_le _,rfl,HB2.out,ownsT_nil w2 _⟩
 case round=>
  obtain ⟨k,hk,rfl,hB,hown⟩:=hrel
  have HB3:=Hid.mk' hB
  have HO3:=Hid.mk' hown
  clear hown
  by_cases hlt:k<n
  ·rcases HH.out.2.2.1 with h0 | ⟨b,off,rfl,hblt,hcl⟩
   ·omega
   have hkl:(k:Int)<(n:Int):=by omega
   have g0:wr.cell? ⟨b,off+k,none⟩=some (.slice (ad k) (ln k) (cp k)):=(hB.cell (p:=⟨b,off+k,none⟩) hblt).trans (hcl k hlt)
   have HK:=Hid.mk' ((HH.out.2.2.2 k hlt).below hB)
   have hwl:=ldsL_len o ln f k
   obtain ⟨t,ht⟩:∃ t,ldAt o ln f k=t:=⟨_,rfl⟩
   have HT:=Hid.mk' ht
   have hok:=HO.out k hlt
   have hlo:leadOk o (ln k) (f k)=true:=by
    unfold leadOk
    rw [hok.2,decide_eq_true (show 1≤o∧o≤3 from ⟨o1,o2⟩),decide_eq_true (show 0<ln k by omega)]
    rfl
   have hlt':leadT o (ln k) (f k)=t:=(leadT_yes hlo).trans ht
   have HC:=Hid.mk' (polLeadI wr o (ad k) (ln k) (cp k) (f k) HK.out)
   clear hcl hB hok ht
   go_wp2_with fail
   refine HC.out.mono ?_
   rw [hlt',hlo]
   rintro r w4 ⟨rfl,hb4⟩
   have hB4:=bel_next HB3.out hb4
   have hO4:=owns_below HO3.out hb4
   clear hb4 g0 hlt' hlo HC HK
   have e2:ldsL o ln f (k+1)=ldsL o ln f k ++ [t]:=by
    rw [← HT.out];rfl
   have HE:=Hid.mk' e2
   have HL:=Hid.mk' hwl
   have hB5:=hB4.alloc hB4.size (.cells #[.int .i64 t.c,.int .i64 t.m.x,.int .i64 t.m.y,.int .i64 t.m.d,.int .i64 t.m.e] 42)
   have hO5:=hO4.alloc (.cells #[.int .i64 t.c,.int .i64 t.m.x,.int .i64 t.m.y,.int .i64 t.m.d,.int .i64 t.m.e] 42)
   have hnew:((w4.alloc (.cells #[.int .i64 t.c,.int .i64 t.m.x,.int .i64 t.m.y,.int .i64 t.m.d,.int .i64 t.m.e] 42)).alloc (.cells #[.int .i64 t.c,.int .i64 t.m.x,.int .i64 t.m.y,.int .i64 t.m.d,.int .i64 t.m.e] 42)).heap[w4.heap.size+1]? = some (.cells #[.int .i64 t.c,.int .i64 t.m.x,.int .i64 t.m.y,.int .i64 t.m.d,.int .i64 t.m.e] 42):=by
    have:=heap_alloc_new (w4.alloc (.cells #[.int .i64 t.c,.int .i64 t.m.x,.int .i64 t.m.y,.int .i64 t.m.d,.int .i64 t.m.e] 42)) (.cells #[.int .i64 t.c,.int .i64 t.m.x,.int .i64 t.m.y,.int .i64 t.m.d,.int .i64 t.m.e] 42)
    rw [World.size_alloc] at this
    exact this
   have HN:=Hid.mk' hnew
   clear e2 HT hnew
   go_wp2_with (at_builtin;refine wpList_append_lies _ rfl (.tmp 37) (.tmp 39) 45 rfl w.heap.size 42 i0 _ 5 40 Tryz.underlying45 hi0 hz0 hz1 hz2 rfl (by omega) _ (ldsL o ln f k).length (cellsL (ldsL o ln f k)) rfl (hO5.alloc _) ⟨w4.heap.size+1,0,none⟩ 1 1 (cellsL [t]) rfl (by rw [cellsL_length];rfl) (by rw [cellsL_one];exact World.news_of_block HN.out) (one_cells _) (by omega) (by unfold maxLen;omega) (by omega) (by have:=hB4.size;simp;omega) _ rfl ?_;intro g0 cap0 w5 hown1 hgrow hat hlt1;have HB:=Hid.mk' ((hB5.alloc hB5.size _).grown hgrow (Nat.le_trans hB4.size (by simp;omega)) (fun k hk=>(hO4.lt k hk).1));have HO1:=Hid.mk' hown1;clear hown1 hgrow hat hlt1 hO4 hO5)
   go_roundw
   case rel=>exact ⟨k+1,by omega,by go_num,HB.out,by
    have h:=HO1.out
    rw [HE.out,cellsL_append,List.length_append]
    rw [HL.out] at h ⊢
    exact h⟩
   case measure=>simp [intOf];omega
  ·have hnl:¬ (k:Int)<(n:Int):=by omega
   have hie:k=n:=by omega
   subst hie
   go_wp2
   refine bodyPost_ret (v:=.tuple #[u8,.bool true]) (by simp [results,Tryz.results45,go_sem, *]) rfl ⟨_,rfl,HB3.out,HO3.out⟩
end Go.Proofs.YtdidlcjhodejjaaGreat
namespace Go.Proofs.YtdidlcjhodejjaaGreat
open Go.RowKit
set_option linter.unusedVariables false
theorem rowM_lin (φ:M→Fq) {K:List T} {a:T} {f:Nat→T} {lb:Nat} (hK:Falls K) (ha:a.m.ok=true∧0≤a.c∧a.c≤100) (hg:Good f lb):∀ k K',k≤lb→rowM K a f k=some K'→lin φ K'=lin φ K+su (List.range k) (fun j=>lin φ (pairL a (f j)))
 | 0,K',_,h=>by cases h;show _=lin φ K+0;grind
 | k+1,K',hk,h=>by
  rw [rowM] at h
  cases hr:rowM K a f k with
  | none=>rw [hr] at h;cases h
  | some K1=>
   rw [hr] at h
   change stepM K1 a (f k)=some K' at h
   have h1:=rowM_lin φ hK ha hg k K1 (by omega) hr
   have hf1:=rowM_falls2 hK ha hg k K1 (by omega) hr
   unfold stepM at h
   split at h
   ·rename_i hok
    cases h
    have h2:=hg k (by omega)
    have tw:Two a (f k) (a.m.sum (f k).m):=⟨ha.1,h2.1,hok.1,rfl,rfl,rfl,rfl,ha.2,h2.2⟩
    rw [lin_add φ hf1 (pairL_facts tw).1,h1,List.range_succ,su_append]
    show _=_+(_+(_+0))
    grind
   ·cases h
theorem rowM_two {K:List T} {a:T} {f:Nat→T}:∀ k K',rowM K a f k=some K'→∀ j,j<k→(a.m.sum (f j).m).ok=true
 | 0,_,_,j,hj=>by omega
 | k+1,K',h,j,hj=>by
  rw [rowM] at h
  cases hr:rowM K a f k with
  | none=>rw [hr] at h;cases h
  | some K1=>
   rw [hr] at h
   change stepM K1 a (f k)=some K' at h
   unfold stepM at h
   split at h
   ·rename_i hok
    by_cases e:j=k
    ·rw [e];exact hok.1
    ·exact rowM_two k K1 hr j (by omega)
   ·cases h
theorem mulM_lin (φ:M→Fq) {f f':Nat→T} {la lb:Nat} (hf:Good f la) (hg:Good f' lb):∀ i K,i≤la→mulM f f' lb i=some K→lin φ K=su (List.range i) (fun k=>su (List.range lb) (fun j=>lin φ (pairL (f k) (f' j))))∧∀ k,k<i→∀ j,j<lb→((f k).m.sum (f' j).m).ok=true
 | 0,K,_,h=>by cases h;exact ⟨rfl,fun k hk=>by omega⟩
 | i+1,K,hi,h=>by
  rw [mulM] at h
  cases hr:mulM f f' lb i with
  | none=>rw [hr] at h;cases h
  | some K1=>
   rw [hr] at h
   have h1:=mulM_lin φ hf hg i K1 (by omega) hr
   refine ⟨?_,fun k hk j hj=>?_⟩
   ·rw [rowM_lin φ (mulM_falls2 hf hg i K1 (by omega) hr) (hf i (by omega)) hg lb K (Nat.le_refl _) h,h1.1,List.range_succ,su_append]
    show _=_+(_+0)
    grind
   ·by_cases e:k=i
    ·rw [e];exact rowM_two lb K h j hj
    ·exact h1.2 k (by omega) j hj
theorem su_lf2 (L:List T) (f:T→Fq):su L f=su (List.range L.length) (fun i=>f (lf L i)):=by
 have e:L=(List.range L.length).map (lf L):=by
  refine List.ext_getElem (by simp) (fun i h1 h2=>?_)
  rw [List.getElem_map,List.getElem_range,lf_eq h1]
 have:=su_map (lf L) f (List.range L.length)
 rw [← e] at this
 exact this
theorem wm_lin {A B P:List T} (h:wmV A B=(P,true)):(∀ φ,lin φ P=su A (fun a=>su B (fun b=>lin φ (pairL a b))))∧∀ a∈A,∀ b∈B,(a.m.sum b.m).ok=true:=by
 unfold wmV wylMul at h
 split at h
 ·rename_i hok
  obtain ⟨l1,g1⟩:=good_ok hok.1
  obtain ⟨l2,g2⟩:=good_ok hok.2
  cases hm:mulM (lf A) (lf B) B.length A.length with
  | none=>rw [hm] at h;simp [mulO] at h
  | some K=>
   rw [hm] at h
   have e:K=P:=by simpa [mulO] using h
   refine ⟨fun φ=>?_,fun a ha b hb=>?_⟩
   ·rw [← e,(mulM_lin φ g1 g2 _ K (Nat.le_refl _) hm).1,su_lf2 A]
    refine su_congr (fun i _=>?_)
    rw [su_lf2 B]
   ·obtain ⟨i,hi,rfl⟩:=List.mem_iff_getElem.1 ha
    obtain ⟨j,hj,rfl⟩:=List.mem_iff_getElem.1 hb
    have:=(mulM_lin (fun _=>0) g1 g2 _ K (Nat.le_refl _) hm).2 i hi j hj
    rwa [lf_eq hi,lf_eq hj] at this
 ·simp at h
def Wt (W:M→Int):Prop:=∀ (a b:M) (i k:Nat),W ⟨a.x+b.x - i,a.y+b.y - k,a.d+b.d - i,a.e+b.e - k⟩≤W a+W b - i - k∧W (a.sum b)=W a+W b
theorem pair_lin (φ:M→Fq) {a b:T} {m:M} (h:Two a b m):lin φ (pairL a b)=su (List.range (limX a b+1)) (fun i=>su (List.range (limY a b+1)) (fun k=>zz (termN a b i k).c * φ (termN a b i k).m)):=by
 show lin φ (putAll (emitN a b (limX a b+1)) [])=_
 rw [lin_putAll _ _ (emit_tok h) falls_nil,lin_nil]
 unfold lin emitN rowN
 rw [su_flat]
 have z:∀ x:Fq,0+x=x:=by intro x;grind
 rw [z]
 refine su_congr (fun i _=>?_)
 rw [su_map]
theorem su_first (f:Nat→Fq):∀ n,(∀ i,0<i→f i=0)→su (List.range (n+1)) f=f 0
 | 0,_=>by show f 0+0=f 0;grind
 | n+1,h=>by
  rw [List.range_succ,su_append,su_first f n h]
  show f 0+(f (n+1)+0)=f 0
  rw [h (n+1) (by omega)];grind
theorem wy_zero {d x:Int} (d0:0≤d) (d1:d≤15) (x0:0≤x) (x1:x≤15):zz (wy d x 0)=1:=by
 have h:=zz_wy (d:=d) (x:=x) (i:=0) d0 d1 x0 x1 (by omega) (by omega)
 have e:((0:Nat):Int)=0:=rfl
 rw [e] at h
 rw [h]
 unfold wN
 rw [chN_zero]
 rfl
theorem pair_top {W:M→Int} (hW:Wt W) (φ:M→Fq) {a b:T} {m:M} (h:Two a b m) {n:Int} (hn:W a.m+W b.m≤n) (hφ:∀ m,W m<n→φ m=0):lin φ (pairL a b)=zz a.c * zz b.c * φ (a.m.sum b.m):=by
 obtain ⟨ax0,ax1,ay0,ay1,ad0,ad1,ae0,ae1⟩:=M.ok_iff.1 h.ok1
 obtain ⟨bx0,bx1,by0,by1,bd0,bd1,be0,be1⟩:=M.ok_iff.1 h.ok2
 have zr:∀ x:Fq,x * 0=0:=by intro x;grind
 have low:∀ i k:Nat,0<i+k→φ (termN a b i k).m=0:=fun i k hik=>by
  have:=(hW a.m b.m i k).1
  refine hφ _ ?_
  show W ⟨a.m.x+b.m.x - i,a.m.y+b.m.y - k,a.m.d+b.m.d - i,a.m.e+b.m.e - k⟩<n
  omega
 rw [pair_lin φ h,su_first _ _ (fun i hi=>su_zero _ _ (fun k _=>by rw [low i k (by omega),zr])),su_first _ _ (fun k hk=>by rw [low 0 k (by omega),zr])]
 have e:(termN a b 0 0).m=a.m.sum b.m:=by
  show (⟨a.m.x+b.m.x - ((0:Nat):Int),a.m.y+b.m.y - ((0:Nat):Int),a.m.d+b.m.d - ((0:Nat):Int),a.m.e+b.m.e - ((0:Nat):Int)⟩:M)=⟨a.m.x+b.m.x,a.m.y+b.m.y,a.m.d+b.m.d,a.m.e+b.m.e⟩
  simp
 rw [e]
 congr 1
 show zz (a.c * b.c % 101 * wy a.m.d b.m.x ((0:Nat):Int) % 101 * wy a.m.e b.m.y ((0:Nat):Int) % 101)=_
 have e0:((0:Nat):Int)=0:=rfl
 rw [e0,zz_mod,zz_mul,zz_mod,zz_mul,zz_mod,zz_mul,wy_zero ad0 ad1 bx0 bx1,wy_zero ae0 ae1 by0 by1]
 grind
theorem two_of {A B P:List T} (h:wmV A B=(P,true)) {a b:T} (ha:a∈A) (hb:b∈B):Two a b (a.m.sum b.m):=by
 obtain ⟨oA,oB⟩:=wm_args h
 have r1:=(okL_falls oA).2.2 a ha
 have r2:=(okL_falls oB).2.2 b hb
 exact ⟨r1.1,r2.1,(wm_lin h).2 a ha b hb,rfl,rfl,rfl,rfl,⟨by omega,r1.2.2⟩,by omega,r2.2.2⟩
theorem wm_top {W:M→Int} (hW:Wt W) {A B P:List T} (h:wmV A B=(P,true)) {n:Int} (hn:∀ a∈A,∀ b∈B,W a.m+W b.m≤n) (φ:M→Fq) (hφ:∀ m,W m<n→φ m=0):lin φ P=su A (fun a=>su B (fun b=>zz a.c * zz b.c * φ (a.m.sum b.m))):=by
 rw [(wm_lin h).1]
 refine su_congr (fun a ha=>su_congr (fun b hb=>?_))
 exact pair_top hW φ (two_of h ha hb) (hn a ha b hb) hφ
def dl (m:M) (x:M):Fq:=if meqB m x=true then 1 else 0
theorem lin_dl {P:List T} (hP:Falls P) {m:M} (hm:m.ok=true):lin (dl m) P=zz (coef P m):=by
 rw [lin_box _ hP]
 have e:su box (fun x=>zz (coef P x) * dl m x)=su box (fun x=>if meqB m x=true then zz (coef P m) else 0):=by
  refine su_congr (fun x _=>?_)
  unfold dl
  by_cases h:meqB m x=true
  ·rw [if_pos h,if_pos h,meqB_eq.1 h];grind
  ·rw [if_neg h,if_neg h];grind
 rw [e,su_single m _ box box_nodup (box_mem hm)]
theorem lead_prod {W:M→Int} (hW:Wt W) (hinj:∀ a b:M,a.ok=true→b.ok=true→W a=W b→a=b) {A B P:List T} (h:wmV A B=(P,true)) {a0 b0:T} (ha0:a0∈A) (hb0:b0∈B) (hA:∀ a∈A,W a.m≤W a0.m) (hB:∀ b∈B,W b.m≤W b0.m):(⟨a0.c * b0.c % 101,a0.m.sum b0.m⟩:T)∈P∧∀ t∈P,W t.m≤W (a0.m.sum b0.m):=by
 obtain ⟨oA,oB⟩:=wm_args h
 have fA:=(okL_falls oA).2
 have fB:=(okL_falls oB).2
 have fP:=wm_falls h
 have ra:=fA.2 a0 ha0
 have rb:=fB.2 b0 hb0
 have hs:=(wm_lin h).2 a0 ha0 b0 hb0
 have hsum:=(hW a0.m b0.m 0 0).2
 have key:∀ m:M,m.ok=true→W (a0.m.sum b0.m)≤W m→zz (coef P m)=zz a0.c * zz b0.c * dl m (a0.m.sum b0.m):=fun m hm hle=>by
  rw [← lin_dl fP hm,wm_top hW h (n:=W a0.m+W b0.m) (fun a ha b hb=>by have:=hA a ha;have:=hB b hb;omega) (dl m) (fun x hx=>by
   unfold dl
   rw [if_neg]
   intro e
   rw [meqB_eq.1 e] at hle
   omega)]
  have zr:∀ x:Fq,x * 0=0:=by intro x;grind
  have off:∀ a∈A,∀ b∈B,(a.m≠a0.m∨b.m≠b0.m)→dl m (a.m.sum b.m)=0:=fun a ha b hb hne=>by
   unfold dl
   rw [if_neg]
   intro e
   rw [meqB_eq.1 e,(hW a.m b.m 0 0).2] at hle
   have h1:=hA a ha
   have h2:=hB b hb
   rcases hne with hne | hne
   ·exact hne (hinj _ _ (fA.2 a ha).1 ra.1 (by omega))
   ·exact hne (hinj _ _ (fB.2 b hb).1 rb.1 (by omega))
  rw [su_falls fA ha0 (fun a ha hne=>su_zero _ _ (fun b hb=>by rw [off a ha b hb (.inl hne),zr])),su_falls fB hb0 (fun b hb hne=>by rw [off a0 ha0 b hb (.inr hne),zr])]
 have c0:coef P (a0.m.sum b0.m)=a0.c * b0.c % 101:=by
  have h1:=key _ hs (Int.le_refl _)
  have e1:dl (a0.m.sum b0.m) (a0.m.sum b0.m)=1:=by unfold dl;rw [if_pos (meqB_eq.2 rfl)]
  rw [e1] at h1
  have h2:zz (coef P (a0.m.sum b0.m))=zz (a0.c * b0.c % 101):=by rw [h1,zz_mod,zz_mul];grind
  exact zz_inj (coef_range fP _) ⟨by omega,by omega⟩ h2
 have cne:a0.c * b0.c % 101≠0:=by
  have:=fMul_ne (a:=a0.c) (b:=b0.c) (by omega) (by omega) (by omega) (by omega)
  rwa [fMul_in (by omega) ra.2.2 (by omega) rb.2.2] at this
 have mem:∀ X:List T,∀ m,coef X m≠0→∃ s∈X,s.m=m∧s.c=coef X m:=fun X m=>by
  induction X with
  | nil=>intro h;exact absurd rfl h
  | cons s r ih=>
   intro h
   rw [coef] at h ⊢
   by_cases e:meqB s.m m=true
   ·exact ⟨s,List.mem_cons_self ..,meqB_eq.1 e,by rw [if_pos e]⟩
   ·rw [if_neg e] at h ⊢
    obtain ⟨x,hx,he⟩:=ih h
    exact ⟨x,List.mem_cons_of_mem _ hx,he⟩
 refine ⟨?_,fun t ht=>?_⟩
 ·obtain ⟨s,hs1,hs2,hs3⟩:=mem P (a0.m.sum b0.m) (by rw [c0];exact cne)
  have:s=⟨a0.c * b0.c % 101,a0.m.sum b0.m⟩:=by
   cases s
   simp only at hs2 hs3
   rw [hs2,hs3,c0]
  rw [← this];exact hs1
 ·have rt:=fP.2 t ht
  by_cases hle:W t.m≤W (a0.m.sum b0.m)
  ·exact hle
  ·exfalso
   have h1:=key t.m rt.1 (by omega)
   have e1:dl t.m (a0.m.sum b0.m)=0:=by
    unfold dl
    rw [if_neg]
    intro e
    rw [meqB_eq.1 e] at hle
    exact hle (Int.le_refl _)
   rw [e1] at h1
   have ht2:coef P t.m=t.c:=by
    have hp:∀ X:List T,Falls X→t∈X→coef X t.m=t.c:=fun X hX hx=>by
     induction X with
     | nil=>cases hx
     | cons s r ih=>
      rw [coef]
      rcases List.mem_cons.1 hx with rfl | hx'
      ·rw [if_pos (meqB_eq.2 rfl)]
      ·have h1:=(List.pairwise_cons.1 hX.1).1 t hx'
       rw [if_neg (fun e=>by rw [meqB_eq.1 e] at h1;omega)]
       exact ih hX.tail hx'
    exact hp P fP ht
   rw [ht2] at h1
   exact zz_ne rt.2.1 rt.2.2 (by rw [h1];grind)
end Go.Proofs.YtdidlcjhodejjaaGreat
namespace Go.Proofs.YtdidlcjhodejjaaGreat
open Go.RowKit
set_option linter.unusedVariables false
def rkW (o:Int) (m:M):Int:=if o=1 then rkD m else if o=3 then rkO m else rkL m
theorem rkW_ord {o:Int} {a b:M} (ho:1≤o∧o≤3) (ha:a.ok=true) (hb:b.ok=true):M.ord o a b=c3 (rkW o a) (rkW o b):=by
 obtain ⟨h1,h2⟩:=ho
 have h:o=1∨o=2∨o=3:=by omega
 rcases h with rfl | rfl | rfl
 ·rw [← rk_deg ha hb];simp [rkW]
 ·rw [← rk_two ha hb];simp [rkW]
 ·rw [← rk_out ha hb];simp [rkW]
theorem rkW_wt (o:Int):Wt (rkW o):=fun a b i k=>by
 unfold rkW rkD rkO rkL M.sum
 split
 ·simp only;omega
 ·split
  ·simp only;omega
  ·simp only;omega
theorem dig16 {a b c d:Int} (hb:0≤b∧b≤15) (hd:0≤d∧d≤15) (h:a * 16+b=c * 16+d):a=c∧b=d:=by omega
theorem dig65 {a b c d:Int} (hb:0≤b∧b≤65535) (hd:0≤d∧d≤65535) (h:a * 65536+b=c * 65536+d):b=d:=by omega
theorem rkL_bdW {a:M} (ha:a.ok=true):0≤rkL a∧rkL a≤65535:=by
 obtain ⟨x1,x2,y1,y2,d1,d2,e1,e2⟩:=M.ok_iff.1 ha
 unfold rkL
 omega
theorem rkL_injW {a b:M} (ha:a.ok=true) (hb:b.ok=true) (h:rkL a=rkL b):a=b:=by
 obtain ⟨x1,x2,y1,y2,d1,d2,e1,e2⟩:=M.ok_iff.1 ha
 obtain ⟨x3,x4,y3,y4,d3,d4,e3,e4⟩:=M.ok_iff.1 hb
 unfold rkL at h
 have k1:=dig16 ⟨y1,y2⟩ ⟨y3,y4⟩ h
 have k2:=dig16 ⟨x1,x2⟩ ⟨x3,x4⟩ k1.1
 have k3:=dig16 ⟨e1,e2⟩ ⟨e3,e4⟩ k2.1
 have q1:=k1.2
 have q2:=k2.2
 have q3:=k3.2
 have q4:=k3.1
 revert q1 q2 q3 q4
 cases a;cases b
 intro q1 q2 q3 q4
 simp only at q1 q2 q3 q4
 rw [q1,q2,q3,q4]
theorem rkW_inj {o:Int} (a b:M) (ha:a.ok=true) (hb:b.ok=true) (h:rkW o a=rkW o b):a=b:=by
 refine rkL_injW ha hb ?_
 have ba:=rkL_bdW ha
 have bb:=rkL_bdW hb
 unfold rkW at h
 split at h
 ·exact dig65 ba bb h
 ·split at h
  ·exact dig65 ba bb h
  ·exact h
theorem c3_gtW {a b:Int}:0<c3 a b ↔ b<a:=by unfold c3;split <;> (try split) <;> omega
theorem lead_topW {o:Int} {f:Nat→T} {n:Nat} (ho:1≤o∧o≤3) (hm:∀ i,i<n→(f i).m.ok=true):∀ (u i k:Nat),i+u≤n→k<n→leadFrom o f u i k<n∧rkW o (f k).m≤rkW o (f (leadFrom o f u i k)).m∧∀ j,i≤j→j<i+u→rkW o (f j).m≤rkW o (f (leadFrom o f u i k)).m
 | 0,i,k,_,hk=>⟨hk,Int.le_refl _,fun j h1 h2=>by omega⟩
 | u+1,i,k,hi,hk=>by
  have hc:=c3_gtW (a:=rkW o (f i).m) (b:=rkW o (f k).m)
  rw [← rkW_ord ho (hm i (by omega)) (hm k hk)] at hc
  simp only [leadFrom]
  split
  ·rename_i h
   obtain ⟨h1,h2,h3⟩:=lead_topW ho hm u (i+1) i (by omega) (by omega)
   have h4:=hc.1 h
   refine ⟨h1,by omega,fun j hj1 hj2=>?_⟩
   by_cases hji:j=i
   ·rw [hji];exact h2
   ·exact h3 j (by omega) (by omega)
  ·rename_i h
   obtain ⟨h1,h2,h3⟩:=lead_topW ho hm u (i+1) k (by omega) hk
   have h4:¬ rkW o (f k).m<rkW o (f i).m:=fun q=>h (hc.2 q)
   refine ⟨h1,h2,fun j hj1 hj2=>?_⟩
   by_cases hji:j=i
   ·rw [hji];omega
   ·exact h3 j (by omega) (by omega)
def ldT (o:Int) (L:List T):T:=leadT o L.length (lf L)
def ldB (o:Int) (L:List T):Bool:=leadOk o L.length (lf L)
theorem ldB_iff {o:Int} {L:List T}:ldB o L=true ↔ (1≤o∧o≤3)∧okL L=true∧L≠[]:=by
 unfold ldB leadOk
 rw [Bool.and_eq_true,Bool.and_eq_true,decide_eq_true_eq,decide_eq_true_eq]
 constructor
 ·rintro ⟨⟨h1,h2⟩,h3⟩
  exact ⟨h1,h2,fun e=>by rw [e] at h3;simp at h3⟩
 ·rintro ⟨h1,h2,h3⟩
  exact ⟨⟨h1,h2⟩,List.length_pos_iff.2 h3⟩
theorem ld_top {o:Int} {L:List T} (h:ldB o L=true):ldT o L∈L∧∀ t∈L,rkW o t.m≤rkW o (ldT o L).m:=by
 obtain ⟨ho,oL,hne⟩:=ldB_iff.1 h
 have hpos:=List.length_pos_iff.2 hne
 have fl:=fl_of_ok (show polOk L.length (lf L)=true from oL)
 have e:ldT o L=lf L (leadAt o (lf L) L.length):=leadT_yes h
 have hm:∀ i,i<L.length→(lf L i).m.ok=true:=fun i hi=>(fl.2 i hi).1
 have key:=lead_topW (o:=o) (f:=lf L) (n:=L.length) ho hm (L.length - 1) 1 0 (by omega) hpos
 have e2:leadAt o (lf L) L.length=leadFrom o (lf L) (L.length - 1) 1 0:=rfl
 rw [e,e2]
 refine ⟨?_,fun t ht=>?_⟩
 ·rw [lf_eq key.1];exact List.getElem_mem _
 ·obtain ⟨i,hi,rfl⟩:=List.mem_iff_getElem.1 ht
  by_cases h0:i=0
  ·subst h0
   have:=key.2.1
   rwa [lf_eq hpos] at this
  ·have:=key.2.2 i (by omega) (by omega)
   rwa [lf_eq hi] at this
theorem wm_nil_l {B P:List T} (h:wmV [] B=(P,true)):P=[]:=by
 have h1:=Rp_mul stdG h
 rw [Rp_nil,Lq.nil_mul] at h1
 exact nil_of_Rp (wm_falls h) h1
theorem wm_nil_r {A P:List T} (h:wmV A []=(P,true)):P=[]:=by
 have h1:=Rp_mul stdG h
 rw [Rp_nil,Lq.mul_nil] at h1
 exact nil_of_Rp (wm_falls h) h1
theorem ld_nil (o:Int):ldB o []=false:=by
 cases h:ldB o []
 ·rfl
 ·exact absurd rfl (ldB_iff.1 h).2.2
theorem ld_prod {o:Int} (ho:1≤o∧o≤3) {A B P:List T} (h:wmV A B=(P,true)):ldB o P=(ldB o A && ldB o B)∧(ldB o A=true→ldB o B=true→M.mul ⟨(ldT o A).m.x,(ldT o A).m.y,(ldT o A).m.d,(ldT o A).m.e⟩ ⟨(ldT o B).m.x,(ldT o B).m.y,(ldT o B).m.d,(ldT o B).m.e⟩=((ldT o P).m,true)∧fMul (ldT o A).c (ldT o B).c=(ldT o P).c):=by
 obtain ⟨oA,oB⟩:=wm_args h
 cases hA:ldB o A
 ·have eA:A=[]:=by
   by_cases e:A=[]
   ·exact e
   ·rw [ldB_iff.2 ⟨ho,oA,e⟩] at hA;cases hA
  subst eA
  rw [wm_nil_l h,ld_nil]
  exact ⟨rfl,fun q=>by cases q⟩
 ·cases hB:ldB o B
  ·have eB:B=[]:=by
    by_cases e:B=[]
    ·exact e
    ·rw [ldB_iff.2 ⟨ho,oB,e⟩] at hB;cases hB
   subst eB
   rw [wm_nil_r h,ld_nil]
   exact ⟨rfl,fun _ q=>by cases q⟩
  ·obtain ⟨a1,a2⟩:=ld_top hA
   obtain ⟨b1,b2⟩:=ld_top hB
   have hp:=lead_prod (rkW_wt o) rkW_inj h a1 b1 a2 b2
   have hne:P≠[]:=fun e=>by rw [e] at hp;cases hp.1
   have hP:ldB o P=true:=ldB_iff.2 ⟨ho,wm_ok h,hne⟩
   refine ⟨hP,fun _ _=>?_⟩
   obtain ⟨p1,p2⟩:=ld_top hP
   have fP:=wm_falls h
   have r1:=fP.2 _ p1
   have hs:=(wm_lin h).2 _ a1 _ b1
   have l1:=hp.2 _ p1
   have l2:=p2 _ hp.1
   dsimp only at l2
   have em:(ldT o P).m=(ldT o A).m.sum (ldT o B).m:=by
    refine rkW_inj (o:=o) _ _ r1.1 hs ?_
    exact Int.le_antisymm l1 l2
   have ra:=(okL_falls oA).2.2 _ a1
   have rb:=(okL_falls oB).2.2 _ b1
   have ec:(ldT o P).c=(ldT o A).c * (ldT o B).c % 101:=by
    have h1:∀ X:List T,Falls X→∀ t∈X,∀ s∈X,t.m=s.m→t=s:=fun X hX=>by
     induction X with
     | nil=>intro t ht;cases ht
     | cons z r ih=>
      intro t ht s hs e
      have hp:=(List.pairwise_cons.1 hX.1).1
      rcases List.mem_cons.1 ht with rfl | ht'
      ·rcases List.mem_cons.1 hs with rfl | hs'
       ·rfl
       ·have:=hp s hs';rw [e] at this;omega
      ·rcases List.mem_cons.1 hs with rfl | hs'
       ·have:=hp t ht';rw [e] at this;omega
       ·exact ih hX.tail t ht' s hs' e
    rw [h1 P fP _ p1 _ hp.1 em]
   refine ⟨?_,?_⟩
   ·rw [em]
    have e3:∀ m:M,(⟨m.x,m.y,m.d,m.e⟩:M)=m:=fun m=>by cases m;rfl
    rw [e3,e3]
    unfold M.mul
    simp [ra.1,rb.1,hs]
   ·rw [ec,fMul_in (by omega) ra.2.2 (by omega) rb.2.2]
end Go.Proofs.YtdidlcjhodejjaaGreat
