/-
  The laws' own look whether operators are the same.
-/
import Derived.Test.YtdidlcjhodejjaaGreatMJaa
import Derived.Test.YtdidlcjhodejjaaGreatMKab
set_option maxHeartbeats 4000000
set_option maxRecDepth 100000
namespace Go.Proofs.YtdidlcjhodejjaaGreat
open Go.RowKit
set_option linter.unusedVariables false
theorem Ig (w:World) (a a':Option Addr) (n cap n' cap':Nat) (f f':Nat→T) (h:Rd w a n cap f) (h':Rd w a' n' cap' f'):Calls Tryz.prog 32 #[.slice a n cap,.slice a' n' cap'] w fun r w'=>r= .returned (.bool (aO n f n' f'))∧Below w.heap.size w w':=by
 obtain⟨h1,h2,h3⟩:=h;obtain⟨h1',h2',h3'⟩:=h';have hn:(n:Int)≤140737488351232:=by omega
 have hn':(n':Int)≤140737488351232:=by omega
 by_cases hnn:n=n'
 ·subst hnn;go_enter Tryz.func32,Tryz.ntmps32;go_wp2;go_loopw [5] (fun i wr=>∃(k:Nat),k≤n∧i= .int .i64 k∧Below w.heap.size w wr∧Hid (∀j,j<k→(f j).eqB (f' j)=true)) (fun i _=>n-(intOf i).toNat);case atStart=>exact⟨0,Nat.zero_le _,rfl,bL _ _,fun j hj=>absurd hj (rT _)⟩
  case round=>
   obtain⟨k,hk,rfl,hB,hok⟩:=hrel;by_cases hlt:k<n
   ·rcases h3 with h0|⟨b,off,rfl,hblt,hcl⟩
    ·omega
    rcases h3' with h0|⟨b',off',rfl,hblt',hcl'⟩
    ·omega
    have hkn:(k:Int)<(n:Int):=by omega
    obtain⟨g0,g1,g2,g3,g4⟩:=(hcl k hlt).below hB hblt;obtain⟨p0,p1,p2,p3,p4⟩:=(hcl' k hlt).below hB hblt';clear hcl hcl';by_cases hc:(f k).c=(f' k).c
    ·skip
     by_cases hx:(f k).m.x=(f' k).m.x
     ·skip
      by_cases hy:(f k).m.y=(f' k).m.y
      ·skip
       by_cases hd:(f k).m.d=(f' k).m.d
       ·skip
        by_cases he:(f k).m.e=(f' k).m.e
        ·skip
         have HN:Hid (∀j,j<k+1→(f j).eqB (f' j)=true):=fun j hj=>by
          by_cases hjk:j=k
          ·rw[hjk];simp[T.eqB,M.eqB,hc,hx,hy,hd,he]
          ·exact hok.out j (by omega)
         clear hok;go_wp2_with fail
         go_quiet (fail)
         go_wp2;go_roundw;case rel=>exact⟨k+1,by omega,by go_num,below_drewN hB _,HN⟩
         case measure=>simp[intOf];omega
        ·skip
         have HN:Hid (aO n f n f'=false):=by
          show _=_;simp only[aO,decide_eq_false_iff_not];intro hh;have:=hh.2 k hlt
          simp[T.eqB,M.eqB,he]at this
         clear hok;go_wp2_with fail
         go_quiet (fail)
         go_wp2;go_ret;exact⟨by rw[HN.out];rfl,below_drewN hB _⟩
       ·skip
        have HN:Hid (aO n f n f'=false):=by
         show _=_;simp only[aO,decide_eq_false_iff_not];intro hh;have:=hh.2 k hlt
         simp[T.eqB,M.eqB,hd]at this
        clear hok;go_wp2_with fail
        go_quiet (fail)
        go_wp2;go_ret;exact⟨by rw[HN.out];rfl,below_drewN hB _⟩
      ·skip
       have HN:Hid (aO n f n f'=false):=by
        show _=_;simp only[aO,decide_eq_false_iff_not];intro hh;have:=hh.2 k hlt
        simp[T.eqB,M.eqB,hy]at this
       clear hok;go_wp2_with fail
       go_quiet (fail)
       go_wp2;go_ret;exact⟨by rw[HN.out];rfl,below_drewN hB _⟩
     ·skip
      have HN:Hid (aO n f n f'=false):=by
       show _=_;simp only[aO,decide_eq_false_iff_not];intro hh;have:=hh.2 k hlt
       simp[T.eqB,M.eqB,hx]at this
      clear hok;go_wp2_with fail
      go_quiet (fail)
      go_wp2;go_ret;exact⟨by rw[HN.out];rfl,below_drewN hB _⟩
    ·skip
     have HN:Hid (aO n f n f'=false):=by
      show _=_;simp only[aO,decide_eq_false_iff_not];intro hh;have:=hh.2 k hlt
      simp[T.eqB,M.eqB,hc]at this
     clear hok;go_wp2_with fail
     go_quiet (fail)
     go_wp2;go_ret;exact⟨by rw[HN.out];rfl,below_drewN hB _⟩
   ·have HP:Hid (aO n f n f'=true):=by show _=_;simp only[aO,decide_eq_true_eq];exact⟨trivial,fun i hi=>hok.out i (by omega)⟩
    clear hok;go_wp2;go_ret;exact⟨by rw[HP.out];rfl,hB⟩
 ·have hp:aO n f n' f'=false:=by simp only[aO,decide_eq_false_iff_not];exact fun h=>hnn h.1
  rw[hp];have hb:((n:Int)!=(n':Int))=true:=by simp;omega
  clear hp;go_enter Tryz.func32,Tryz.ntmps32;go_wp2;go_ret;exact⟨rfl,bL _ _⟩
variable {w:World} {a b:Option Addr} {ca cb:Nat} {L K:List T}
theorem Nc (ha:RL w a ca L) (hb:RL w b cb K):Calls Tryz.prog 32 #[.slice a L.length ca,.slice b K.length cb] w (ZP w (.bool (sq L K))):=Ig w a b L.length ca K.length cb (lf L) (lf K) ha hb
end Go.Proofs.YtdidlcjhodejjaaGreat
namespace Go.Proofs.YtdidlcjhodejjaaGreat
open Go.RowKit Go.Deep Go.Joins
set_option linter.unusedVariables false
set_option linter.unusedSimpArgs false
theorem MN {w:World} {a:Option Addr} {n c:Nat} {ad:Nat→Option Addr} {cp:Nat→Nat} {L:Nat→List T} (h:cZ w a n c ad (lN L) cp (fN L)) (hn:n≤100):nG w a c (eH (gK ad cp L) n):=by
 refine⟨by rw[cH];exact h.1,by rw[cH];exact hn,?_,fun e he=>?_⟩
 ·rcases h.2.2.1 with h0|⟨b,off,e1,hlt,hc⟩
  ·exact .inl (by rw[cH];exact h0)
  ·refine .inr ⟨b,off,e1,hlt,fun i e he=>?_⟩;have hi:i<n:=by have:=(List.getElem?_eq_some_iff.1 he).1;rwa[cH]at this
   have h2:=xC (gK ad cp L) hi;rw[List.getD_eq_getElem?_getD,he]at h2;have h3:e=gK ad cp L i:=h2
   rw[h3];exact hc i hi
 ·obtain⟨i,hi,rfl⟩:=List.mem_map.1 he;exact h.2.2.2 i (by simpa using hi)
open Go.RowKit Go.Deep Go.Joins Go.Maps
def FZ (R:Option Dv):Bool:=R.isSome&&decide ((qG R).length=0)
theorem JG (w:World) (o:Int) (pa:Option Addr) (pc:Nat) (p:List T) (a:Option Addr) (n cap:Nat) (ad:Nat→Option Addr) (ln cp:Nat→Nat) (f:Nat→Nat→T) (hp:RL w pa pc p) (h:cZ w a n cap ad ln cp f) {R:Option Dv} (hR:aW o p n ln f=R):Calls Tryz.prog 28 #[.int .i64 o,.slice a n cap,.slice pa p.length pc] w fun r w'=>r= .returned (.tuple #[.bool (FZ R),.bool R.isSome])∧Below w.heap.size w w':=by
 have HC:=aA (DN w o pa pc p a n cap ad ln cp f hp h hR);have hbd:=(SV (o:=o) (p:=p) (n:=n) (ln:=ln) (f:=f)).2.2
 rw[hR]at hbd;clear hp h hR;cases R with
 |none=>
  go_enter Tryz.func28,Tryz.ntmps28;go_wp2_with fail;refine HC.out.mono ?_;rintro r w1 ⟨qa,qc,ad',cp',Rb,B,la,lc,mid,rfl,hb,_⟩;have HB:=aA hb
  simp only[Option.isSome];clear hb HC;go_wp2;refine bY (results_tmp2 rfl _ _ _) rfl ?_;exact⟨rfl,HB.out⟩
 |some S=>
  have hl:(S.r.length:Int)≤300:=by have:S.r.length≤300:=hbd;omega
  by_cases h0:S.r.length=0
  ·have hi:((S.r.length:Int)==0)=true:=by simpa using h0
   have HG:Hid (FZ (some S)=true):=by show FZ (some S)=true;simp[FZ,qG,h0]
   clear h0;go_enter Tryz.func28,Tryz.ntmps28;go_wp2_with fail;refine HC.out.mono ?_;rintro r w1 ⟨qa,qc,ad',cp',Rb,B,la,lc,mid,rfl,hb,_⟩;have HB:=aA hb
   simp only[Option.isSome,qG];clear hb HC;go_wp2;refine bY (results_tmp2 rfl _ _ _) rfl ?_;rw[HG.out];exact⟨rfl,HB.out⟩
  ·have hi:((S.r.length:Int)==0)=false:=by simpa using h0
   have HG:Hid (FZ (some S)=false):=by show FZ (some S)=false;simp[FZ,qG,h0]
   clear h0;go_enter Tryz.func28,Tryz.ntmps28;go_wp2_with fail;refine HC.out.mono ?_;rintro r w1 ⟨qa,qc,ad',cp',Rb,B,la,lc,mid,rfl,hb,_⟩;have HB:=aA hb
   simp only[Option.isSome,qG];clear hb HC;go_wp2;refine bY (results_tmp2 rfl _ _ _) rfl ?_;rw[HG.out];exact⟨rfl,HB.out⟩
end Go.Proofs.YtdidlcjhodejjaaGreat
