/-
  The product of two operators: the model.
-/
import Derived.Test.YtdidlcjhodejjaaGreatUar
import Derived.Test.YtdidlcjhodejjaaGreatUap
namespace Go.Proofs.YtdidlcjhodejjaaGreat
open Go.RowKit
set_option linter.unusedVariables false
theorem fChoose_range (n k:Int):0≤fChoose n k∧fChoose n k≤100:=by unfold fChoose;split <;> omega
theorem fl_range (n:Int):∀ k:Nat,0≤fl n k∧fl n k≤100
 | 0=>by unfold fl;omega
 | k+1=>by unfold fl;omega
theorem fFall_range (n k:Int):0≤fFall n k∧fFall n k≤100:=by
 unfold fFall
 split
 ·exact fl_range _ _
 ·omega
set_option maxHeartbeats 1000000 in
theorem pairS (s t k:Int) (w:World) :
  Calls Tryz.prog 146 #[.int .i64 s,.int .i64 t,.int .i64 k] w fun e w'=>e=.returned (.int .i64 (wy s t k))∧w'=w:=by
 have h1:=fChoose_range s k
 have h2:=fFall_range t k
 have hm:wy s t k=fChoose s k * fFall t k % 101:=fMul_in h1.1 h1.2 h2.1 h2.2
 have hb:0≤fChoose s k * fFall t k∧fChoose s k * fFall t k≤10000:=⟨Int.mul_nonneg h1.1 h2.1,by
  have:=Int.mul_le_mul h1.2 h2.2 h2.1 (by omega);omega⟩
 rw [hm]
 have hc:=chooseS s k
 have hf:=fallS t k
 generalize fChoose s k=p at *
 generalize fFall t k=q at *
 generalize hpq:p * q=r at *
 clear hm
 go_enter Tryz.func146,Tryz.ntmps146
 go_wp2_with (first
  | (go_at_call 163;refine (hc _).mono ?_;rintro e w' ⟨rfl,hw'⟩;obtain rfl:=hw'.symm;clear hw')
  | (go_at_call 164;refine (hf _).mono ?_;rintro e w' ⟨rfl,hw'⟩;obtain rfl:=hw'.symm;clear hw'))
 go_ret
 exact ⟨rfl,rfl⟩
theorem putAll_snocW (xs:List T) (t:T) (L:List T):putAll (xs ++ [t]) L=putT t.c t.m (putAll xs L):=by simp [putAll]
theorem putAll_len:∀ (xs L:List T),(putAll xs L).length≤L.length+xs.length
 | [],L=>Nat.le_refl _
 | t :: r,L=>by
  have h1:=putAll_len r (putT t.c t.m L)
  have h2:=putT_len t.c t.m L
  show (putAll r (putT t.c t.m L)).length≤_
  rw [List.length_cons]
  omega
theorem emitN_len (a b:T) (i:Nat):(emitN a b i).length=i * (limY a b+1):=by
 unfold emitN
 rw [flat_len (limY a b+1) _ (fun i=>by simp [rowN])]
 simp
def MAt (W:World) (Bx:Nat) (m:M):Prop:=W.heap[Bx]? = some (.cells #[.int .i64 m.x,.int .i64 m.y,.int .i64 m.d,.int .i64 m.e] 40 (0,0))
theorem MAt.cells {W:World} {Bx:Nat} {m:M} (h:MAt W Bx m):W.cell? ⟨Bx,0,none⟩=some (.int .i64 m.x)∧W.cell? ⟨Bx,1,none⟩=some (.int .i64 m.y)∧W.cell? ⟨Bx,2,none⟩=some (.int .i64 m.d)∧W.cell? ⟨Bx,3,none⟩=some (.int .i64 m.e):=by
 unfold MAt at h
 refine ⟨?_,?_,?_,?_⟩ <;> (unfold World.cell?;simp only [h];rfl)
set_option maxRecDepth 100000 in
set_option maxHeartbeats 8000000 in
theorem monoNo (w:World) (a b:T) (h3:(a.m.sum b.m).ok=false) :
  Calls Tryz.prog 111 #[.agg #[.int .i64 a.c,.int .i64 a.m.x,.int .i64 a.m.y,.int .i64 a.m.d,.int .i64 a.m.e],.agg #[.int .i64 b.c,.int .i64 b.m.x,.int .i64 b.m.y,.int .i64 b.m.d,.int .i64 b.m.e]] w fun e w'=>∃ v,e=.returned (.tuple #[v,.bool false])∧Below w.heap.size w w'∧w'.ownsRow w.heap.size 42 5 v 0 (cellsL []):=by
 have hm:M.mul a.m b.m=(M.zero,false):=by simp [M.mul,h3]
 have hc:=monMulS a.m.x a.m.y a.m.d a.m.e b.m.x b.m.y b.m.d b.m.e
 have ea:(⟨a.m.x,a.m.y,a.m.d,a.m.e⟩:M)=a.m:=rfl
 have eb:(⟨b.m.x,b.m.y,b.m.d,b.m.e⟩:M)=b.m:=rfl
 rw [ea,eb,hm] at hc
 have HO:=Hid.mk' (owns_none ((w.alloc (.cells #[.int .i64 a.c,.int .i64 a.m.x,.int .i64 a.m.y,.int .i64 a.m.d,.int .i64 a.m.e] 42)).alloc (.cells #[.int .i64 b.c,.int .i64 b.m.x,.int .i64 b.m.y,.int .i64 b.m.d,.int .i64 b.m.e] 42)) w.heap.size (by simp;omega))
 have HW:=Hid.mk' ((((Below.refl w.heap.size w).alloc (Nat.le_refl _) (.cells #[.int .i64 a.c,.int .i64 a.m.x,.int .i64 a.m.y,.int .i64 a.m.d,.int .i64 a.m.e] 42)).alloc (by simp) (.cells #[.int .i64 b.c,.int .i64 b.m.x,.int .i64 b.m.y,.int .i64 b.m.d,.int .i64 b.m.e] 42)).alloc (by simp;omega) (.cells #[] 42))
 go_enter Tryz.func111,Tryz.ntmps111
 go_wp2_with (go_at_call 145;refine (hc _).mono ?_;rintro e w1 ⟨rfl,hb1⟩)
 refine bodyPost_ret (results_tmp2 rfl _ _ _) rfl ?_
 have hO:=HO.out
 simp only [World.size_alloc] at hO
 have hb2:=(HW.out.trans (hb1.mono (by simp;omega)))
 exact ⟨_,rfl,hb2.alloc hb2.size _,owns_below hO (hb1.alloc (Nat.le_trans (Nat.le_refl _) hb1.size) _)⟩
set_option maxRecDepth 100000 in
set_option maxHeartbeats 8000000 in
theorem monoYes (w:World) (a b:T) (h:Two a b (a.m.sum b.m)) :
  Calls Tryz.prog 111 #[.agg #[.int .i64 a.c,.int .i64 a.m.x,.int .i64 a.m.y,.int .i64 a.m.d,.int .i64 a.m.e],.agg #[.int .i64 b.c,.int .i64 b.m.x,.int .i64 b.m.y,.int .i64 b.m.d,.int .i64 b.m.e]] w fun e w'=>∃ v,e=.returned (.tuple #[v,.bool true])∧Below w.heap.size w w'∧w'.ownsRow w.heap.size 42 5 v (pairL a b).length (cellsL (pairL a b)):=by
 have hm:M.mul a.m b.m=(a.m.sum b.m,true):=by simp [M.mul,h.ok1,h.ok2,h.ok3]
 have hc:=monMulS a.m.x a.m.y a.m.d a.m.e b.m.x b.m.y b.m.d b.m.e
 have ea:(⟨a.m.x,a.m.y,a.m.d,a.m.e⟩:M)=a.m:=rfl
 have eb:(⟨b.m.x,b.m.y,b.m.d,b.m.e⟩:M)=b.m:=rfl
 rw [ea,eb,hm] at hc
 have m1:=M.ok_iff.1 h.ok1
 have m2:=M.ok_iff.1 h.ok2
 have m3:=M.ok_iff.1 h.ok3
 have lx:=h.lx
 have ly:=h.ly
 have k1:=h.c1
 have k2:=h.c2
 have H:=Hid.mk' h
 have HO:=Hid.mk' (owns_none ((w.alloc (.cells #[.int .i64 a.c,.int .i64 a.m.x,.int .i64 a.m.y,.int .i64 a.m.d,.int .i64 a.m.e] 42)).alloc (.cells #[.int .i64 b.c,.int .i64 b.m.x,.int .i64 b.m.y,.int .i64 b.m.d,.int .i64 b.m.e] 42)) w.heap.size (by simp;omega))
 have HW:=Hid.mk' ((((Below.refl w.heap.size w).alloc (Nat.le_refl _) (.cells #[.int .i64 a.c,.int .i64 a.m.x,.int .i64 a.m.y,.int .i64 a.m.d,.int .i64 a.m.e] 42)).alloc (by simp) (.cells #[.int .i64 b.c,.int .i64 b.m.x,.int .i64 b.m.y,.int .i64 b.m.d,.int .i64 b.m.e] 42)).alloc (by simp;omega) (.cells #[] 42))
 have HTA:Hid (TermAt (((w.alloc (.cells #[.int .i64 a.c,.int .i64 a.m.x,.int .i64 a.m.y,.int .i64 a.m.d,.int .i64 a.m.e] 42)).alloc (.cells #[.int .i64 b.c,.int .i64 b.m.x,.int .i64 b.m.y,.int .i64 b.m.d,.int .i64 b.m.e] 42)).alloc (.cells #[] 42)) w.heap.size a):=(Below.heap_alloc _ _ _ (by simp;omega)).trans ((Below.heap_alloc _ _ _ (by simp)).trans (World.alloc_heap_new w _))
 have HTB:Hid (TermAt (((w.alloc (.cells #[.int .i64 a.c,.int .i64 a.m.x,.int .i64 a.m.y,.int .i64 a.m.d,.int .i64 a.m.e] 42)).alloc (.cells #[.int .i64 b.c,.int .i64 b.m.x,.int .i64 b.m.y,.int .i64 b.m.d,.int .i64 b.m.e] 42)).alloc (.cells #[] 42)) (w.heap.size+1) b):=by
  have:=World.alloc_heap_new (w.alloc (.cells #[.int .i64 a.c,.int .i64 a.m.x,.int .i64 a.m.y,.int .i64 a.m.d,.int .i64 a.m.e] 42)) (.cells #[.int .i64 b.c,.int .i64 b.m.x,.int .i64 b.m.y,.int .i64 b.m.d,.int .i64 b.m.e] 42)
  rw [World.size_alloc] at this
  exact (Below.heap_alloc _ _ _ (by simp)).trans this
 clear h
 generalize a.m.sum b.m=g at *
 go_enter Tryz.func111,Tryz.ntmps111
 go_wp2_with (go_at_call 145;refine (hc _).mono ?_;rintro e w1 ⟨rfl,hb1⟩;have HB1:=Hid.mk' hb1;clear hb1)
 have hb1:=HB1.out
 have hO:=HO.out
 simp only [World.size_alloc] at hO
 have hbw:Below w.heap.size w w1:=HW.out.trans (hb1.mono (by simp;omega))
 have hs1:=hb1.size
 simp only [World.size_alloc] at hs1
 have hT1:TermAt w1 w.heap.size a:=(hb1.block _ (by simp;omega)).trans HTA.out
 have hT2:TermAt w1 (w.heap.size+1) b:=(hb1.block _ (by simp)).trans HTB.out
 have hO1:=owns_below hO hb1
 have hG:MAt (w1.alloc (.cells #[.int .i64 g.x,.int .i64 g.y,.int .i64 g.d,.int .i64 g.e] 40)) w1.heap.size g:=World.alloc_heap_new w1 _
 have hT1':TermAt (w1.alloc (.cells #[.int .i64 g.x,.int .i64 g.y,.int .i64 g.d,.int .i64 g.e] 40)) w.heap.size a:=(Below.heap_alloc _ _ _ (by omega)).trans hT1
 have hT2':TermAt (w1.alloc (.cells #[.int .i64 g.x,.int .i64 g.y,.int .i64 g.d,.int .i64 g.e] 40)) (w.heap.size+1) b:=(Below.heap_alloc _ _ _ (by omega)).trans hT2
 have hO2:=hO1.alloc (.cells #[.int .i64 g.x,.int .i64 g.y,.int .i64 g.d,.int .i64 g.e] 40)
 have hB2:=hbw.alloc hbw.size (.cells #[.int .i64 g.x,.int .i64 g.y,.int .i64 g.d,.int .i64 g.e] 40)
 have hs2:(w1.alloc (.cells #[.int .i64 g.x,.int .i64 g.y,.int .i64 g.d,.int .i64 g.e] 40)).heap.size=w1.heap.size+1:=by simp
 generalize w1.alloc (.cells #[.int .i64 g.x,.int .i64 g.y,.int .i64 g.d,.int .i64 g.e] 40)=w3 at *
 generalize w1.heap.size=Bg at *
 clear hb1 hO hT1 hT2 hO1 hbw HB1 HO HW HTA HTB hc
 have hq0:0≤a.c * b.c:=Int.mul_nonneg k1.1 k2.1
 have hq1:a.c * b.c≤10000:=by have:=Int.mul_le_mul k1.2 k2.2 k2.1 (by omega);omega
 go_loopw [6,9] (fun v ii wr=>∃ i:Nat,i≤limX a b+1∧ii=.int .i64 (i:Int)∧wr.ownsRow w.heap.size 42 5 v (putAll (emitN a b i) []).length (cellsL (putAll (emitN a b i) []))∧Below w.heap.size w wr∧TermAt wr w.heap.size a∧TermAt wr (w.heap.size+1) b∧MAt wr Bg g) (fun _ ii _=>limX a b+1 - (intOf ii).toNat)
 case atStart=>exact ⟨0,Nat.zero_le _,rfl,hO2,hB2,hT1',hT2',hG⟩
 case round=>
  obtain ⟨i,hi,rfl,hown,hbl,hTa,hTb,hGg⟩:=hrel
  obtain ⟨a0,a1,a2,a3,a4⟩:=hTa.cells
  obtain ⟨b0,b1,b2,b3,b4⟩:=hTb.cells
  obtain ⟨g0,g1,g2,g3⟩:=hGg.cells
  by_cases hlt:i≤limX a b
  ·have i1:(i:Int)≤a.m.d:=by omega
   have i2:(i:Int)≤b.m.x:=by omega
   have HOWN:=Hid.mk' hown
   have HBL:=Hid.mk' hbl
   have HTA2:=Hid.mk' hTa
   have HTB2:=Hid.mk' hTb
   have HGG:=Hid.mk' hGg
   clear hown hbl hTa hTb hGg
   go_wp2
   clear a0 a1 a2 a3 a4 b0 b1 b2 b3 b4 g0 g1 g2 g3
   go_loopw [6,10] (fun v kk wr=>∃ k:Nat,k≤limY a b+1∧kk=.int .i64 (k:Int)∧wr.ownsRow w.heap.size 42 5 v (putAll (emitN a b i ++ rowN a b i k) []).length (cellsL (putAll (emitN a b i ++ rowN a b i k) []))∧Below w.heap.size w wr∧TermAt wr w.heap.size a∧TermAt wr (w.heap.size+1) b∧MAt wr Bg g) (fun _ kk _=>limY a b+1 - (intOf kk).toNat)
   case atStart=>exact ⟨0,Nat.zero_le _,rfl,by have e0:emitN a b i ++ rowN a b i 0=emitN a b i:=List.append_nil _;rw [e0];exact HOWN.out,HBL.out,HTA2.out,HTB2.out,HGG.out⟩
   case round=>
    obtain ⟨k,hk,rfl,hown,hbl,hTa,hTb,hGg⟩:=hrel
    obtain ⟨a0,a1,a2,a3,a4⟩:=hTa.cells
    obtain ⟨b0,b1,b2,b3,b4⟩:=hTb.cells
    obtain ⟨g0,g1,g2,g3⟩:=hGg.cells
    have HOK:=Hid.mk' hown
    have HBK:=Hid.mk' hbl
    have HTAk:=Hid.mk' hTa
    have HTBk:=Hid.mk' hTb
    have HGGk:=Hid.mk' hGg
    clear hown hbl hTa hTb hGg
    by_cases hlt2:k≤limY a b
    ·have j1:(k:Int)≤a.m.e:=by omega
     have j2:(k:Int)≤b.m.y:=by omega
     have p1:=fMul_range (fChoose a.m.d i) (fFall b.m.x i)
     have p2:=fMul_range (fChoose a.m.e k) (fFall b.m.y k)
     change 0≤wy a.m.d b.m.x i∧wy a.m.d b.m.x i≤100 at p1
     change 0≤wy a.m.e b.m.y k∧wy a.m.e b.m.y k≤100 at p2
     have q0:0≤a.c * b.c % 101∧a.c * b.c % 101≤100:=by omega
     have q1:0≤a.c * b.c % 101 * wy a.m.d b.m.x i:=Int.mul_nonneg q0.1 p1.1
     have q2:a.c * b.c % 101 * wy a.m.d b.m.x i≤10000:=by have:=Int.mul_le_mul q0.2 p1.2 p1.1 (by omega);omega
     have q3:0≤a.c * b.c % 101 * wy a.m.d b.m.x i % 101∧a.c * b.c % 101 * wy a.m.d b.m.x i % 101≤100:=by omega
     have q4:0≤a.c * b.c % 101 * wy a.m.d b.m.x i % 101 * wy a.m.e b.m.y k:=Int.mul_nonneg q3.1 p2.1
     have q5:a.c * b.c % 101 * wy a.m.d b.m.x i % 101 * wy a.m.e b.m.y k≤10000:=by have:=Int.mul_le_mul q3.2 p2.2 p2.1 (by omega);omega
     have hTN:termN a b i k=⟨a.c * b.c % 101 * wy a.m.d b.m.x i % 101 * wy a.m.e b.m.y k % 101,⟨g.x - i,g.y - k,g.d - i,g.e - k⟩⟩:=by
      unfold termN
      rw [H.out.gx,H.out.gy,H.out.gd,H.out.ge]
     have htok:TOK (emitN a b i ++ rowN a b i k):=by
      have hall:=emit_tok H.out
      intro t ht
      refine hall t ?_
      unfold emitN
      rcases List.mem_append.1 ht with h1 | h1
      ·unfold emitN at h1
       obtain ⟨i',hi',h2⟩:=List.mem_flatMap.1 h1
       exact List.mem_flatMap.2 ⟨i',List.mem_range.2 (by have:=List.mem_range.1 hi';omega),h2⟩
      ·refine List.mem_flatMap.2 ⟨i,List.mem_range.2 (by omega),?_⟩
       unfold rowN at h1 ⊢
       obtain ⟨k',hk',h2⟩:=List.mem_map.1 h1
       exact List.mem_map.2 ⟨k',List.mem_range.2 (by have:=List.mem_range.1 hk';omega),h2⟩
     have hfl:=(putAll_facts _ [] htok falls_nil).1
     have hlen:(putAll (emitN a b i ++ rowN a b i k) []).length≤1000:=by
      have h1:=putAll_len (emitN a b i ++ rowN a b i k) []
      have h2:(rowN a b i k).length=k:=by simp [rowN]
      rw [List.length_append,emitN_len,h2] at h1
      have h3:i * (limY a b+1)≤15 * 16:=Nat.mul_le_mul (by omega) (by omega)
      simp at h1
      omega
     have hnx:putAll (emitN a b i ++ rowN a b i (k+1)) []=putT (a.c * b.c % 101 * wy a.m.d b.m.x i % 101 * wy a.m.e b.m.y k % 101) ⟨g.x - i,g.y - k,g.d - i,g.e - k⟩ (putAll (emitN a b i ++ rowN a b i k) []):=by
      rw [rowN_succ,← List.append_assoc,putAll_snocW,hTN]
     have HNX:=Hid.mk' hnx
     have HFL:=Hid.mk' hfl
     have HLE:=Hid.mk' hlen
     clear hTN htok hfl hlen hnx
     go_wp2_with (first
      | (go_at_call 146;refine (pairS _ _ _ _).mono ?_;rintro e w' ⟨rfl,hw'⟩;obtain rfl:=hw'.symm;clear hw')
      | (go_at_call 143;refine (l4PutS _ w.heap.size _ _ _ _ _ _ _ HOK.out HBK.out.size HLE.out (cok_falls HFL.out) (by omega) (by omega)).mono ?_;rintro e w5 ⟨v5,rfl,hb5,ho5⟩;have HB5:=Hid.mk' hb5;have HO5:=Hid.mk' ho5;clear hb5 ho5))
     go_roundw
     case rel=>exact ⟨k+1,by omega,by go_num,by rw [HNX.out];exact HO5.out,HBK.out.trans (HB5.out.mono HBK.out.size),(HB5.out.block _ (Array.getElem?_eq_some_iff.1 HTAk.out).1).trans HTAk.out,(HB5.out.block _ (Array.getElem?_eq_some_iff.1 HTBk.out).1).trans HTBk.out,(HB5.out.block _ (Array.getElem?_eq_some_iff.1 HGGk.out).1).trans HGGk.out⟩
     case measure=>simp [intOf];omega
    ·have hkl:k=limY a b+1:=by omega
     subst hkl
     have hoe:=HOK.out
     rw [← emitN_succ] at hoe
     have HOE:=Hid.mk' hoe
     clear hoe
     by_cases hd:((limY a b+1:Nat):Int)≤a.m.e
     ·have hx:¬ ((limY a b+1:Nat):Int)≤b.m.y:=by omega
      go_wp2
      go_roundw
      case rel=>exact ⟨i+1,by omega,by go_num,HOE.out,HBK.out,HTAk.out,HTBk.out,HGGk.out⟩
      case measure=>simp [intOf];omega
     ·go_wp2
      go_roundw
      case rel=>exact ⟨i+1,by omega,by go_num,HOE.out,HBK.out,HTAk.out,HTBk.out,HGGk.out⟩
      case measure=>simp [intOf];omega
  ·have hil:i=limX a b+1:=by omega
   subst hil
   by_cases hd:((limX a b+1:Nat):Int)≤a.m.d
   ·have hx:¬ ((limX a b+1:Nat):Int)≤b.m.x:=by omega
    go_wp2
    refine bodyPost_ret (results_tmp2 rfl _ _ _) rfl ?_
    exact ⟨_,rfl,hbl,hown⟩
   ·go_wp2
    refine bodyPost_ret (results_tmp2 rfl _ _ _) rfl ?_
    exact ⟨_,rfl,hbl,hown⟩
def pairO (a b:T):List T:=if (a.m.sum b.m).ok=true then pairL a b else []
theorem monoS (w:World) (a b:T) (h1:a.m.ok=true∧0≤a.c∧a.c≤100) (h2:b.m.ok=true∧0≤b.c∧b.c≤100) :
  Calls Tryz.prog 111 #[.agg #[.int .i64 a.c,.int .i64 a.m.x,.int .i64 a.m.y,.int .i64 a.m.d,.int .i64 a.m.e],.agg #[.int .i64 b.c,.int .i64 b.m.x,.int .i64 b.m.y,.int .i64 b.m.d,.int .i64 b.m.e]] w fun e w'=>∃ v,e=.returned (.tuple #[v,.bool (a.m.sum b.m).ok])∧Below w.heap.size w w'∧w'.ownsRow w.heap.size 42 5 v (pairO a b).length (cellsL (pairO a b)):=by
 cases hok:(a.m.sum b.m).ok
 ·have e:pairO a b=[]:=by simp [pairO,hok]
  rw [e]
  exact monoNo w a b hok
 ·have e:pairO a b=pairL a b:=by simp [pairO,hok]
  rw [e]
  exact monoYes w a b ⟨h1.1,h2.1,hok,rfl,rfl,rfl,rfl,h1.2,h2.2⟩
theorem pairL_small {a b:T} (h:Two a b (a.m.sum b.m)):(pairL a b).length≤1000:=by
 have h1:=putAll_len (emitN a b (limX a b+1)) []
 have m1:=M.ok_iff.1 h.ok1
 have lx:=h.lx
 have ly:=h.ly
 rw [emitN_len] at h1
 have h3:(limX a b+1) * (limY a b+1)≤16 * 16:=Nat.mul_le_mul (by omega) (by omega)
 unfold pairL
 simp at h1
 omega
theorem pairO_small {a b:T} (h1:a.m.ok=true∧0≤a.c∧a.c≤100) (h2:b.m.ok=true∧0≤b.c∧b.c≤100):(pairO a b).length≤1000:=by
 unfold pairO
 split
 ·rename_i hok;exact pairL_small ⟨h1.1,h2.1,hok,rfl,rfl,rfl,rfl,h1.2,h2.2⟩
 ·simp
end Go.Proofs.YtdidlcjhodejjaaGreat
namespace Go.Proofs.YtdidlcjhodejjaaGreat
open Go.RowKit
set_option linter.unusedVariables false
set_option maxRecDepth 100000 in
set_option maxHeartbeats 8000000 in
theorem mulS4 (w:World) (a b:Option Addr) (la ca lb cb:Nat) (f g:Nat→T) (ha:Rd w a la ca f) (hb:Rd w b lb cb g) (l1:la≤400) (l2:lb≤400) (gf:Good f la) (gg:Good g lb) :
  Calls Tryz.prog 68 #[.slice a la ca,.slice b lb cb] w fun r w'=>∃ v,r=.returned (.tuple #[v,.bool (mulO (mulM f g lb la)).2])∧Below w.heap.size w w'∧w'.ownsRow w.heap.size 42 5 v (mulO (mulM f g lb la)).1.length (cellsL (mulO (mulM f g lb la)).1):=by
 have HA:=Hid.mk' ha
 have HB:=Hid.mk' hb
 have HGF:=Hid.mk' gf
 have HGG:=Hid.mk' gg
 have hO0:=owns_none w w.heap.size (Nat.le_refl _)
 have hB0:=bel_one w (.cells #[] 42)
 clear ha hb gf gg
 go_enter Tryz.func68,Tryz.ntmps68
 go_wp2
 generalize w.alloc (.cells #[] 42)=w0 at *
 go_loopw [6,7] (fun v ii wr=>∃ (i:Nat) (K:List T),i≤la∧ii=.int .i64 (i:Int)∧mulM f g lb i=some K∧Falls K∧K.length≤400∧wr.ownsRow w.heap.size 42 5 v K.length (cellsL K)∧Below w.heap.size w wr) (fun _ ii _=>la - (intOf ii).toNat)
 case atStart=>exact ⟨0,[],Nat.zero_le _,rfl,rfl,falls_nil,Nat.zero_le _,hO0,hB0⟩
 case round=>
  obtain ⟨i,K,hi,rfl,hM,hKf,hKl,hown,hbl⟩:=hrel
  by_cases hlt:i<la
  ·have hil:(i:Int)<(la:Int):=by omega
   have HM:=Hid.mk' hM
   have HKF:=Hid.mk' hKf
   have HOWN:=Hid.mk' hown
   have HBL:=Hid.mk' hbl
   clear hM hKf hown hbl
   go_wp2
   go_loopw [6,8] (fun v kk wr=>∃ (k:Nat) (K':List T),k≤lb∧kk=.int .i64 (k:Int)∧rowM K (f i) g k=some K'∧Falls K'∧K'.length≤400∧wr.ownsRow w.heap.size 42 5 v K'.length (cellsL K')∧Below w.heap.size w wr) (fun _ kk _=>lb - (intOf kk).toNat)
   case atStart=>exact ⟨0,K,Nat.zero_le _,rfl,rfl,HKF.out,hKl,HOWN.out,HBL.out⟩
   case round=>
    obtain ⟨k,K',hk,rfl,hM',hKf',hKl',hown',hbl'⟩:=hrel
    by_cases hlt2:k<lb
    ·have hkl:(k:Int)<(lb:Int):=by omega
     have hri:=HA.out.below hbl'
     have hrk:=HB.out.below hbl'
     rcases hri.2.2 with h0 | ⟨pb,off,hpe,hblt,hcl⟩
     ·omega
     rcases hrk.2.2 with h0 | ⟨pb2,off2,hpe2,hblt2,hcl2⟩
     ·omega
     obtain ⟨g0,g1,g2,g3,g4⟩:=hcl i hlt
     obtain ⟨j0,j1,j2,j3,j4⟩:=hcl2 k hlt2
     have hfi:=HGF.out i hlt
     have hgk:=HGG.out k hlt2
     obtain ⟨av,cv,hv,hout⟩:=out_of_owns hown' (by omega)
     have HM':=Hid.mk' hM'
     have HKF':=Hid.mk' hKf'
     have HOUT:=Hid.mk' hout
     have HBL':=Hid.mk' hbl'
     clear hM' hKf' hown' hout hcl hcl2 hri hrk hbl'
     subst hpe hpe2 hv
     go_wp2_with fail
     have hps:=pairO_small hfi hgk
     have hps2:(pairO (f i) (g k)).length * 40≤140737488351232:=by omega
     have hbr:=HBL'.out.size
     go_region_with (go_at_call 111;refine (monoS _ (f i) (g k) hfi hgk).mono ?_;rintro r w5 ⟨v5,rfl,hb5,ho5⟩;obtain ⟨a5,c5,rfl,hout5⟩:=out_of_owns ho5 hps2;have HB5:=Hid.mk' ((Below.refl wr.heap.size wr).drew.trans hb5);have HOUT5:=Hid.mk' hout5;clear hb5 ho5 hout5)
     all_goals
      have hB5:Below w.heap.size w w5:=HBL'.out.trans (HB5.out.mono HBL'.out.size)
      by_cases hok:((f i).m.sum (g k).m).ok=true
      ·have hTwo:Two (f i) (g k) ((f i).m.sum (g k).m):=⟨hfi.1,hgk.1,hok,rfl,rfl,rfl,rfl,hfi.2,hgk.2⟩
       have epo:pairO (f i) (g k)=pairL (f i) (g k):=if_pos hok
       have hfp:=(pairL_facts hTwo).1
       have hfa:=(addL_facts HKF'.out hfp).1
       have hR5:Rd w5 av K'.length cv (lf K'):=HOUT.out.1.below (HB5.out)
       have hX5:=HOUT5.out.1
       rw [epo] at hX5 hps
       rw [epo,hok]
       have hadd:=l3AddS w5 av a5 K'.length cv (pairL (f i) (g k)).length c5 (lf K') (lf (pairL (f i) (g k))) hR5 hX5 (by omega) ((cok_falls HKF'.out).at) ((cok_falls hfp).at)
       have eA:addT (lf K') K'.length (lf (pairL (f i) (g k))) (pairL (f i) (g k)).length 0 0=addL K' (pairL (f i) (g k)):=rfl
       rw [eA] at hadd
       have hal:(addL K' (pairL (f i) (g k))).length≤K'.length+(pairL (f i) (g k)).length:=by have:=addT_len (lf K') K'.length (lf (pairL (f i) (g k))) (pairL (f i) (g k)).length 0 0;simp only [Nat.sub_zero] at this;exact this
       by_cases h4:(addL K' (pairL (f i) (g k))).length≤400
       ·have hstep:rowM K (f i) g (k+1)=some (addL K' (pairL (f i) (g k))):=by rw [rowM,HM'.out];show stepM _ _ _=_;unfold stepM;rw [if_pos ⟨hok,h4⟩]
        have HST:=Hid.mk' hstep
        have h4':((addL K' (pairL (f i) (g k))).length:Int)≤400:=by omega
        clear hstep
        generalize hL:addL K' (pairL (f i) (g k))=L at *
        go_wp2_with (go_at_call 85;refine hadd.mono ?_;rintro r w6 ⟨v6,rfl,hb6,ho6⟩;obtain ⟨a6,c6,rfl,hout6⟩:=out_of_owns ho6 (by omega);have HB6:=Hid.mk' hb6;have HO6:=Hid.mk' ho6;clear hb6 ho6 hout6)
        go_roundw
        case rel=>exact ⟨k+1,L,by omega,by go_num,HST.out,hfa,h4,ownsRow_low HO6.out hB5.size,hB5.trans (HB6.out.mono hB5.size)⟩
        case measure=>simp [intOf];omega
       ·have hstep:rowM K (f i) g (k+1)=none:=by rw [rowM,HM'.out];show stepM _ _ _=_;unfold stepM;rw [if_neg (fun h=>h4 h.2)]
        have hno:mulM f g lb la=none:=mulM_none (i:=i+1) (by rw [mulM,HM.out];exact rowM_none hstep lb (by omega)) la (by omega)
        have h4':(400:Int)<((addL K' (pairL (f i) (g k))).length:Int):=by omega
        clear hstep
        generalize hL:addL K' (pairL (f i) (g k))=L at *
        go_wp2_with (go_at_call 85;refine hadd.mono ?_;rintro r w6 ⟨v6,rfl,hb6,ho6⟩;obtain ⟨a6,c6,rfl,hout6⟩:=out_of_owns ho6 (by omega);have HB6:=Hid.mk' hb6;clear hb6 ho6 hout6)
        refine bodyPost_ret (results_tmp2 rfl _ _ _) rfl ?_
        rw [hno]
        have hB6:Below w.heap.size w w6:=hB5.trans (HB6.out.mono hB5.size)
        exact ⟨_,rfl,hB6.alloc hB6.size _,owns_none w6 w.heap.size hB6.size⟩
      ·have hstep:rowM K (f i) g (k+1)=none:=by rw [rowM,HM'.out];show stepM _ _ _=_;unfold stepM;rw [if_neg (fun h=>hok h.1)]
       have hno:mulM f g lb la=none:=mulM_none (i:=i+1) (by rw [mulM,HM.out];exact rowM_none hstep lb (by omega)) la (by omega)
       have hok':((f i).m.sum (g k).m).ok=false:=by simpa using hok
       rw [hok']
       clear hstep
       go_wp2
       refine bodyPost_ret (results_tmp2 rfl _ _ _) rfl ?_
       rw [hno]
       exact ⟨_,rfl,hB5.alloc hB5.size _,owns_none w5 w.heap.size hB5.size⟩
    ·obtain rfl:k=lb:=by omega
     have HMk:Hid (mulM f g k (i+1)=some K'):=by show _=_;rw [mulM,HM.out];exact hM'
     go_wp2
     go_roundw
     case rel=>exact ⟨i+1,K',by omega,by go_num,HMk.out,hKf',hKl',hown',hbl'⟩
     case measure=>simp [intOf];omega
  ·obtain rfl:i=la:=by omega
   go_wp2
   refine bodyPost_ret (results_tmp2 rfl _ _ _) rfl ?_
   rw [hM]
   exact ⟨_,rfl,hbl,hown⟩
end Go.Proofs.YtdidlcjhodejjaaGreat
namespace Go.Proofs.YtdidlcjhodejjaaGreat
open Go.RowKit
set_option linter.unusedVariables false
end Go.Proofs.YtdidlcjhodejjaaGreat
namespace Go.Proofs.YtdidlcjhodejjaaGreat
open Go.RowKit
set_option linter.unusedVariables false
end Go.Proofs.YtdidlcjhodejjaaGreat
