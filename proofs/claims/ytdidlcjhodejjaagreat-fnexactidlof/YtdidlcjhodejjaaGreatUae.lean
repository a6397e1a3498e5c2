/-
  What the functions of the program's chapter 3 return: whether terms are an operator, an operator of one term, the number
-/
import Derived.Test.YtdidlcjhodejjaaGreatUac
import Derived.Test.YtdidlcjhodejjaaGreatUad
import Derived.Deep.RegionHeld3
namespace Go.Proofs.YtdidlcjhodejjaaGreat
open Go.RowKit
set_option linter.unusedVariables false
theorem owns_nil (w:World) (lo:Nat):w.ownsRow lo 42 5 (.slice none 0 0) 0 (cellsL []):=⟨rfl,.inl ⟨rfl,rfl⟩⟩
set_option maxHeartbeats 1000000 in
theorem polOfI (c x y d e:Int) (w:World) :
  Calls Tryz.prog 139 #[.int .i64 c,.agg #[.int .i64 x,.int .i64 y,.int .i64 d,.int .i64 e]] w fun r w'=>∃ v,r=.returned v∧Below w.heap.size w w'∧w'.ownsRow w.heap.size 42 5 v (polOf c ⟨x,y,d,e⟩).length (cellsL (polOf c ⟨x,y,d,e⟩)):=by
 cases ht:termOk c ⟨x,y,d,e⟩
 ·have e1:polOf c ⟨x,y,d,e⟩=[]:=by
   unfold polOf
   rw [if_neg (fun h=>by rw [termOk,decide_eq_true h.1,h.2] at ht;cases ht)]
  rw [e1]
  clear e1
  go_enter Tryz.func139,Tryz.ntmps139
  go_wp2_with fail
  refine (polTermOkI_of ht _).mono ?_
  rintro r w1 ⟨rfl,hb⟩
  have HB:=Hid.mk' (bel_next (bel_one w _) hb)
  clear hb
  go_wp2
  go_ret
  exact ⟨_,rfl,HB.out,owns_nil w1 _⟩
 ·have e1:polOf c ⟨x,y,d,e⟩=[⟨c,⟨x,y,d,e⟩⟩]:=by
   unfold polOf
   simp only [termOk,Bool.and_eq_true,decide_eq_true_eq] at ht
   rw [if_pos ht]
  rw [e1]
  clear e1
  go_enter Tryz.func139,Tryz.ntmps139
  go_wp2_with fail
  refine (polTermOkI_of ht _).mono ?_
  rintro r w1 ⟨rfl,hb⟩
  obtain ⟨hcl,hf⟩:=bcell hb
  have HB:=Hid.mk' (bel_next (bel_one w _) hb)
  clear hb
  go_wp2
  go_ret
  exact ⟨_,rfl,HB.out.alloc HB.out.size _,World.ownsRow_lit w1 #[.int .i64 c,.int .i64 x,.int .i64 y,.int .i64 d,.int .i64 e] 1 HB.out.size (by decide) rfl⟩
end Go.Proofs.YtdidlcjhodejjaaGreat
namespace Go.Proofs.YtdidlcjhodejjaaGreat
open Go.RowKit
set_option linter.unusedVariables false
theorem polScale_len (c:Int) (f:Nat→T) (n:Nat):(polScale c f n).length≤400:=by
 unfold polScale;split
 ·rename_i h;rw [scT_len];exact (polOk_c h.2.1).1
 ·simp
set_option maxRecDepth 100000 in
set_option maxHeartbeats 4000000 in
theorem polSameS (w:World) (a a':Option Addr) (n cap n' cap':Nat) (f f':Nat→T) (h:Rd w a n cap f) (h':Rd w a' n' cap' f') :
  Calls Tryz.prog 56 #[.slice a n cap,.slice a' n' cap'] w fun r w'=>r=.returned (.bool (termsEq n f n' f'))∧Below w.heap.size w w':=by
 obtain ⟨h1,h2,h3⟩:=h
 obtain ⟨h1',h2',h3'⟩:=h'
 have hn:(n:Int)≤140737488351232:=by omega
 have hn':(n':Int)≤140737488351232:=by omega
 by_cases hnn:n=n'
 ·subst hnn
  go_enter Tryz.func56,Tryz.ntmps56
  go_wp2
  go_loopw [5] (fun i wr=>∃ (k:Nat),k≤n∧i=.int .i64 k∧Below w.heap.size w wr∧Hid (∀ j,j<k→(f j).eqB (f' j)=true)) (fun i _=>n - (intOf i).toNat)
  case atStart=>exact ⟨0,Nat.zero_le _,rfl,Below.refl _ _,fun j hj=>absurd hj (Nat.not_lt_zero _)⟩
  case round=>
   obtain ⟨k,hk,rfl,hB,hok⟩:=hrel
   by_cases hlt:k<n
   ·rcases h3 with h0 | ⟨b,off,rfl,hblt,hcl⟩
    ·omega
    rcases h3' with h0 | ⟨b',off',rfl,hblt',hcl'⟩
    ·omega
    have hkn:(k:Int)<(n:Int):=by omega
    obtain ⟨g0,g1,g2,g3,g4⟩:=(hcl k hlt).below hB hblt
    obtain ⟨p0,p1,p2,p3,p4⟩:=(hcl' k hlt).below hB hblt'
    clear hcl hcl'
    by_cases hc:(f k).c=(f' k).c
    ·skip
     by_cases hx:(f k).m.x=(f' k).m.x
     ·skip
      by_cases hy:(f k).m.y=(f' k).m.y
      ·skip
       by_cases hd:(f k).m.d=(f' k).m.d
       ·skip
        by_cases he:(f k).m.e=(f' k).m.e
        ·skip
         have HN:Hid (∀ j,j<k+1→(f j).eqB (f' j)=true):=fun j hj=>by
          by_cases hjk:j=k
          ·rw [hjk];simp [T.eqB,M.eqB,hc,hx,hy,hd,he]
          ·exact hok.out j (by omega)
         clear hok
         go_wp2_with fail
         go_quiet (fail)
         go_wp2
         go_roundw
         case rel=>exact ⟨k+1,by omega,by go_num,below_drewN hB _,HN⟩
         case measure=>simp [intOf];omega
        ·skip
         have HN:Hid (termsEq n f n f'=false):=by
          show _=_
          simp only [termsEq,decide_eq_false_iff_not]
          intro hh
          have:=hh.2 k hlt
          simp [T.eqB,M.eqB,he] at this
         clear hok
         go_wp2_with fail
         go_quiet (fail)
         go_wp2
         go_ret
         exact ⟨by rw [HN.out];rfl,below_drewN hB _⟩
       ·skip
        have HN:Hid (termsEq n f n f'=false):=by
         show _=_
         simp only [termsEq,decide_eq_false_iff_not]
         intro hh
         have:=hh.2 k hlt
         simp [T.eqB,M.eqB,hd] at this
        clear hok
        go_wp2_with fail
        go_quiet (fail)
        go_wp2
        go_ret
        exact ⟨by rw [HN.out];rfl,below_drewN hB _⟩
      ·skip
       have HN:Hid (termsEq n f n f'=false):=by
        show _=_
        simp only [termsEq,decide_eq_false_iff_not]
        intro hh
        have:=hh.2 k hlt
        simp [T.eqB,M.eqB,hy] at this
       clear hok
       go_wp2_with fail
       go_quiet (fail)
       go_wp2
       go_ret
       exact ⟨by rw [HN.out];rfl,below_drewN hB _⟩
     ·skip
      have HN:Hid (termsEq n f n f'=false):=by
       show _=_
       simp only [termsEq,decide_eq_false_iff_not]
       intro hh
       have:=hh.2 k hlt
       simp [T.eqB,M.eqB,hx] at this
      clear hok
      go_wp2_with fail
      go_quiet (fail)
      go_wp2
      go_ret
      exact ⟨by rw [HN.out];rfl,below_drewN hB _⟩
    ·skip
     have HN:Hid (termsEq n f n f'=false):=by
      show _=_
      simp only [termsEq,decide_eq_false_iff_not]
      intro hh
      have:=hh.2 k hlt
      simp [T.eqB,M.eqB,hc] at this
     clear hok
     go_wp2_with fail
     go_quiet (fail)
     go_wp2
     go_ret
     exact ⟨by rw [HN.out];rfl,below_drewN hB _⟩
   ·have HP:Hid (termsEq n f n f'=true):=by
     show _=_
     simp only [termsEq,decide_eq_true_eq]
     exact ⟨trivial,fun i hi=>hok.out i (by omega)⟩
    clear hok
    go_wp2
    go_ret
    exact ⟨by rw [HP.out];rfl,hB⟩
 ·have hp:termsEq n f n' f'=false:=by
   simp only [termsEq,decide_eq_false_iff_not]
   exact fun h=>hnn h.1
  rw [hp]
  have hb:((n:Int) != (n':Int))=true:=by simp;omega
  clear hp
  go_enter Tryz.func56,Tryz.ntmps56
  go_wp2
  go_ret
  exact ⟨rfl,Below.refl _ _⟩
set_option maxRecDepth 100000 in
set_option maxHeartbeats 4000000 in
theorem slicesEqual (w:World) (a a':Option Addr) (n cap n' cap':Nat) (f f':Nat→T) (h:Rd w a n cap f) (h':Rd w a' n' cap' f') :
  Calls Tryz.prog 100 #[.slice a n cap,.slice a' n' cap'] w fun r w'=>r=.returned (.bool (termsEq n f n' f'))∧Below w.heap.size w w':=by
 obtain ⟨h1,h2,h3⟩:=h
 obtain ⟨h1',h2',h3'⟩:=h'
 have hn:(n:Int)≤140737488351232:=by omega
 have hn':(n':Int)≤140737488351232:=by omega
 by_cases hnn:n=n'
 ·subst hnn
  go_enter Tryz.func100,Tryz.ntmps100
  go_wp2
  go_loopw [13] (fun i wr=>∃ (k:Nat),k≤n∧i=.int .i64 k∧Below w.heap.size w wr∧Hid (∀ j,j<k→(f j).eqB (f' j)=true)) (fun i _=>n - (intOf i).toNat)
  case atStart=>exact ⟨0,Nat.zero_le _,rfl,Below.refl _ _,fun j hj=>absurd hj (Nat.not_lt_zero _)⟩
  case round=>
   obtain ⟨k,hk,rfl,hB,hok⟩:=hrel
   by_cases hlt:k<n
   ·rcases h3 with h0 | ⟨b,off,rfl,hblt,hcl⟩
    ·omega
    rcases h3' with h0 | ⟨b',off',rfl,hblt',hcl'⟩
    ·omega
    have hkn:(k:Int)<(n:Int):=by omega
    obtain ⟨g0,g1,g2,g3,g4⟩:=(hcl k hlt).below hB hblt
    obtain ⟨p0,p1,p2,p3,p4⟩:=(hcl' k hlt).below hB hblt'
    clear hcl hcl'
    by_cases hc:(f k).c=(f' k).c
    ·skip
     by_cases hx:(f k).m.x=(f' k).m.x
     ·skip
      by_cases hy:(f k).m.y=(f' k).m.y
      ·skip
       by_cases hd:(f k).m.d=(f' k).m.d
       ·skip
        by_cases he:(f k).m.e=(f' k).m.e
        ·skip
         have HN:Hid (∀ j,j<k+1→(f j).eqB (f' j)=true):=fun j hj=>by
          by_cases hjk:j=k
          ·rw [hjk];simp [T.eqB,M.eqB,hc,hx,hy,hd,he]
          ·exact hok.out j (by omega)
         clear hok
         go_wp2_with fail
         go_quiet (fail)
         go_wp2
         go_roundw
         case rel=>exact ⟨k+1,by omega,by go_num,below_drewN hB _,HN⟩
         case measure=>simp [intOf];omega
        ·skip
         have HN:Hid (termsEq n f n f'=false):=by
          show _=_
          simp only [termsEq,decide_eq_false_iff_not]
          intro hh
          have:=hh.2 k hlt
          simp [T.eqB,M.eqB,he] at this
         clear hok
         go_wp2_with fail
         go_quiet (fail)
         go_wp2
         go_ret
         exact ⟨by rw [HN.out];rfl,below_drewN hB _⟩
       ·skip
        have HN:Hid (termsEq n f n f'=false):=by
         show _=_
         simp only [termsEq,decide_eq_false_iff_not]
         intro hh
         have:=hh.2 k hlt
         simp [T.eqB,M.eqB,hd] at this
        clear hok
        go_wp2_with fail
        go_quiet (fail)
        go_wp2
        go_ret
        exact ⟨by rw [HN.out];rfl,below_drewN hB _⟩
      ·skip
       have HN:Hid (termsEq n f n f'=false):=by
        show _=_
        simp only [termsEq,decide_eq_false_iff_not]
        intro hh
        have:=hh.2 k hlt
        simp [T.eqB,M.eqB,hy] at this
       clear hok
       go_wp2_with fail
       go_quiet (fail)
       go_wp2
       go_ret
       exact ⟨by rw [HN.out];rfl,below_drewN hB _⟩
     ·skip
      have HN:Hid (termsEq n f n f'=false):=by
       show _=_
       simp only [termsEq,decide_eq_false_iff_not]
       intro hh
       have:=hh.2 k hlt
       simp [T.eqB,M.eqB,hx] at this
      clear hok
      go_wp2_with fail
      go_quiet (fail)
      go_wp2
      go_ret
      exact ⟨by rw [HN.out];rfl,below_drewN hB _⟩
    ·skip
     have HN:Hid (termsEq n f n f'=false):=by
      show _=_
      simp only [termsEq,decide_eq_false_iff_not]
      intro hh
      have:=hh.2 k hlt
      simp [T.eqB,M.eqB,hc] at this
     clear hok
     go_wp2_with fail
     go_quiet (fail)
     go_wp2
     go_ret
     exact ⟨by rw [HN.out];rfl,below_drewN hB _⟩
   ·have HP:Hid (termsEq n f n f'=true):=by
     show _=_
     simp only [termsEq,decide_eq_true_eq]
     exact ⟨trivial,fun i hi=>hok.out i (by omega)⟩
    clear hok
    go_wp2
    go_ret
    exact ⟨by rw [HP.out];rfl,hB⟩
 ·have hp:termsEq n f n' f'=false:=by
   simp only [termsEq,decide_eq_false_iff_not]
   exact fun h=>hnn h.1
  rw [hp]
  have hb:((n:Int) != (n':Int))=true:=by simp;omega
  clear hp
  go_enter Tryz.func100,Tryz.ntmps100
  go_wp2
  go_ret
  exact ⟨rfl,Below.refl _ _⟩
theorem polSameI (w:World) (a a':Option Addr) (n cap n' cap':Nat) (f f':Nat→T) (h:Rd w a n cap f) (h':Rd w a' n' cap' f') :
  Calls Tryz.prog 58 #[.slice a n cap,.slice a' n' cap'] w fun r w'=>r=.returned (.bool (termsEq n f n' f'))∧Below w.heap.size w w':=by
 have H:=Hid.mk' h
 have H':=Hid.mk' h'
 clear h h'
 go_enter Tryz.func58,Tryz.ntmps58
 go_wp2_with fail
 refine (slicesEqual _ _ _ _ _ _ _ f f' H.out H'.out).mono ?_
 rintro r w1 ⟨rfl,hb⟩
 go_wp2
 go_ret
 exact ⟨rfl,hb⟩
end Go.Proofs.YtdidlcjhodejjaaGreat
namespace Go.Proofs.YtdidlcjhodejjaaGreat
open Go.RowKit
set_option linter.unusedVariables false
theorem ownsT_nil (w:World) (lo:Nat):w.ownsRow lo 42 5 (.slice none 0 0) 0 (cellsL []):=⟨rfl,.inl ⟨rfl,rfl⟩⟩
theorem s5_below {w w':World} {b:Nat} {v0 v1 v2 v3 v4:Value} (hb:Below w.heap.size w w') (h:w.cell? ⟨b,0,none⟩=some v0∧w.cell? ⟨b,1,none⟩=some v1∧w.cell? ⟨b,2,none⟩=some v2∧w.cell? ⟨b,3,none⟩=some v3∧w.cell? ⟨b,4,none⟩=some v4):w'.cell? ⟨b,0,none⟩=some v0∧w'.cell? ⟨b,1,none⟩=some v1∧w'.cell? ⟨b,2,none⟩=some v2∧w'.cell? ⟨b,3,none⟩=some v3∧w'.cell? ⟨b,4,none⟩=some v4:=by
 have hl:b<w.heap.size:=World.block_lt_of_cell? w _ h.1
 exact ⟨(hb.cell (p:=⟨b,0,none⟩) hl).trans h.1,(hb.cell (p:=⟨b,1,none⟩) hl).trans h.2.1,(hb.cell (p:=⟨b,2,none⟩) hl).trans h.2.2.1,(hb.cell (p:=⟨b,3,none⟩) hl).trans h.2.2.2.1,(hb.cell (p:=⟨b,4,none⟩) hl).trans h.2.2.2.2⟩
theorem s5_alloc {w:World} {o:Obj} {b:Nat} {v0 v1 v2 v3 v4:Value} (h:w.cell? ⟨b,0,none⟩=some v0∧w.cell? ⟨b,1,none⟩=some v1∧w.cell? ⟨b,2,none⟩=some v2∧w.cell? ⟨b,3,none⟩=some v3∧w.cell? ⟨b,4,none⟩=some v4):(w.alloc o).cell? ⟨b,0,none⟩=some v0∧(w.alloc o).cell? ⟨b,1,none⟩=some v1∧(w.alloc o).cell? ⟨b,2,none⟩=some v2∧(w.alloc o).cell? ⟨b,3,none⟩=some v3∧(w.alloc o).cell? ⟨b,4,none⟩=some v4:=s5_below ((Below.refl _ _).alloc (Nat.le_refl _) o) h
theorem s5_drew {w:World} {b:Nat} {v0 v1 v2 v3 v4:Value} (h:w.cell? ⟨b,0,none⟩=some v0∧w.cell? ⟨b,1,none⟩=some v1∧w.cell? ⟨b,2,none⟩=some v2∧w.cell? ⟨b,3,none⟩=some v3∧w.cell? ⟨b,4,none⟩=some v4):w.drew.cell? ⟨b,0,none⟩=some v0∧w.drew.cell? ⟨b,1,none⟩=some v1∧w.drew.cell? ⟨b,2,none⟩=some v2∧w.drew.cell? ⟨b,3,none⟩=some v3∧w.drew.cell? ⟨b,4,none⟩=some v4:=s5_below (Below.refl _ _).drew h
theorem s5_grown {w w':World} {row:Option Nat} {b:Nat} {v0 v1 v2 v3 v4:Value} (hg:w.grownBy w' row) (hne:some b≠row) (h:w.cell? ⟨b,0,none⟩=some v0∧w.cell? ⟨b,1,none⟩=some v1∧w.cell? ⟨b,2,none⟩=some v2∧w.cell? ⟨b,3,none⟩=some v3∧w.cell? ⟨b,4,none⟩=some v4):w'.cell? ⟨b,0,none⟩=some v0∧w'.cell? ⟨b,1,none⟩=some v1∧w'.cell? ⟨b,2,none⟩=some v2∧w'.cell? ⟨b,3,none⟩=some v3∧w'.cell? ⟨b,4,none⟩=some v4:=by
 have he:=hg.block b (World.block_lt_of_cell? w _ h.1) hne
 exact ⟨(World.cell?_of_block (w:=w) (a:=⟨b,0,none⟩) he).trans h.1,(World.cell?_of_block (w:=w) (a:=⟨b,1,none⟩) he).trans h.2.1,(World.cell?_of_block (w:=w) (a:=⟨b,2,none⟩) he).trans h.2.2.1,(World.cell?_of_block (w:=w) (a:=⟨b,3,none⟩) he).trans h.2.2.2.1,(World.cell?_of_block (w:=w) (a:=⟨b,4,none⟩) he).trans h.2.2.2.2⟩
set_option maxRecDepth 100000 in
set_option maxHeartbeats 8000000 in
theorem polScaleI (w:World) (c:Int) (a:Option Addr) (n cap:Nat) (f:Nat→T) (h:Rd w a n cap f) :
  Calls Tryz.prog 30 #[.int .i64 c,.slice a n cap] w fun r w'=>∃ v,r=.returned v∧Below w.heap.size w w'∧w'.ownsRow w.heap.size 42 5 v (polScale c f n).length (cellsL (polScale c f n)):=by
 obtain ⟨i0,hi0,hz0,hz1,hz2⟩:=info_parts infoT
 have HR:=Hid.mk' h
 by_cases hz:c=0
 ·have e1:polScale c f n=[]:=by simp [polScale,hz]
  rw [e1]
  subst hz
  clear h e1
  go_enter Tryz.func30,Tryz.ntmps30
  go_wp2
  go_ret
  exact ⟨_,rfl,Below.refl _ _,ownsT_nil w _⟩
 ·have hcb:(c == 0)=false:=by simp [hz]
  by_cases hc:0≤c∧c≤100
  ·obtain ⟨c0,c1⟩:=hc
   cases hp:polOk n f
   ·have e1:polScale c f n=[]:=by simp [polScale,hp]
    rw [e1]
    clear h e1 hz
    go_enter Tryz.func30,Tryz.ntmps30
    go_wp2_with (go_at_call 71;refine (okI_in _ _ c0 c1).mono ?_;rintro r w' ⟨rfl,hw'⟩;obtain rfl:=hw'.symm;clear hw')
    refine (polOkI _ _ _ _ f HR.out).mono ?_
    rw [hp]
    rintro r w1 ⟨rfl,hb⟩
    go_wp2
    go_ret
    exact ⟨_,rfl,hb,ownsT_nil w1 _⟩
   ·obtain ⟨l1,c2⟩:=polOk_c hp
    have HC:=Hid.mk' c2
    have e1:polScale c f n=scT c f n:=by simp [polScale,hp,c0,c1,hz]
    rw [e1,scT_len]
    obtain ⟨h1,h2,h3⟩:=h
    have hn:(n:Int)≤400:=by omega
    clear e1 hz c2
    go_enter Tryz.func30,Tryz.ntmps30
    go_wp2_with (go_at_call 71;refine (okI_in _ _ c0 c1).mono ?_;rintro r w' ⟨rfl,hw'⟩;obtain rfl:=hw'.symm;clear hw')
    refine (polOkI _ _ _ _ f HR.out).mono ?_
    rw [hp]
    rintro r w1 ⟨rfl,hb1⟩
    have HB1:=Hid.mk' hb1
    clear hb1
    go_wp2
    go_loopw [5,22] (fun v i wr=>∃ k:Nat,k≤n∧i=.int .i64 k∧Below w.heap.size w wr∧wr.ownsRow w.heap.size 42 5 v k (cellsL (scT c f k))) (fun _ i _=>n - (intOf i).toNat)
    case atStart=>exact ⟨0,Nat.zero_le _,rfl,HB1.out,ownsT_nil w1 _⟩
    case round=>
     obtain ⟨k,hk,rfl,hB,hown⟩:=hrel
     by_cases hlt:k<n
     ·rcases h3 with h0 | ⟨b,off,rfl,hblt,hcl⟩
      ·omega
      have hkn:(k:Int)<(n:Int):=by omega
      obtain ⟨g0,g1,g2,g3,g4⟩:=(hcl k hlt).below hB hblt
      obtain ⟨cf1,cf2⟩:=HC.out k hlt
      obtain ⟨mb1,mb2⟩:=mul_bd c0 c1 cf1 cf2
      have HO:=Hid.mk' hown
      clear hcl hown
      go_wp2_with fail
      have HOQ:=Hid.mk' (HO.out.alloc (.cells #[.int .i64 (f k).c,.int .i64 (f k).m.x,.int .i64 (f k).m.y,.int .i64 (f k).m.d,.int .i64 (f k).m.e] 42))
      have HBQ:=Hid.mk' (hB.alloc hB.size (.cells #[.int .i64 (f k).c,.int .i64 (f k).m.x,.int .i64 (f k).m.y,.int .i64 (f k).m.d,.int .i64 (f k).m.e] 42))
      have q:∀ i v,#[Value.int .i64 (f k).c,.int .i64 (f k).m.x,.int .i64 (f k).m.y,.int .i64 (f k).m.d,.int .i64 (f k).m.e][i]?=some v→(wr.alloc (.cells #[.int .i64 (f k).c,.int .i64 (f k).m.x,.int .i64 (f k).m.y,.int .i64 (f k).m.d,.int .i64 (f k).m.e] 42)).cell? ⟨wr.heap.size,i,none⟩=some v:=fun i v hv=>by
       rw [World.cell?_alloc_at _ _ _ _ rfl];exact hv
      have hsz:(wr.alloc (.cells #[.int .i64 (f k).c,.int .i64 (f k).m.x,.int .i64 (f k).m.y,.int .i64 (f k).m.d,.int .i64 (f k).m.e] 42)).heap.size=wr.heap.size+1:=by simp
      generalize (wr.alloc (.cells #[.int .i64 (f k).c,.int .i64 (f k).m.x,.int .i64 (f k).m.y,.int .i64 (f k).m.d,.int .i64 (f k).m.e] 42))=wq at HOQ HBQ q hsz ⊢
      have q0:=q 0 _ rfl
      have q1:=q 1 _ rfl
      have q2:=q 2 _ rfl
      have q3:=q 3 _ rfl
      have q4:=q 4 _ rfl
      have hws:w.heap.size≤wr.heap.size:=hB.size
      have HSZ:=Hid.mk' hsz
      clear g0 g1 g2 g3 g4 q hsz
      go_region_held3 (fun u=>u.cell? ⟨wr.heap.size,0,none⟩=some (.int .i64 (f k).c)∧u.cell? ⟨wr.heap.size,1,none⟩=some (.int .i64 (f k).m.x)∧u.cell? ⟨wr.heap.size,2,none⟩=some (.int .i64 (f k).m.y)∧u.cell? ⟨wr.heap.size,3,none⟩=some (.int .i64 (f k).m.d)∧u.cell? ⟨wr.heap.size,4,none⟩=some (.int .i64 (f k).m.e)) (first | exact s5_grown hgrow (fun hh=>absurd (HO.out.lt _ hh.symm).2 (Nat.lt_irrefl _)) (by assumption) | exact s5_alloc (by assumption) | exact s5_drew (by assumption) | exact ⟨q0,q1,q2,q3,q4⟩) (first | (refine step_append_lies _ (by rfl) (.tmp 26) (.tmp 34) 45 (by rfl) w.heap.size 42 i0 _ 5 40 Tryz.underlying45 hi0 hz0 hz1 hz2 rfl (by omega) _ k (cellsL (scT c f k)) (by rfl) (by first | exact HOQ.out.alloc _ | exact (owns_below HOQ.out (Below.refl _ _).drew).alloc _) ⟨wq.heap.size,0,none⟩ 1 1 (cellsL [⟨c * (f k).c % 101,(f k).m⟩]) (by rfl) (by rw [cellsL_length];rfl) (by rw [cellsL_one];exact World.news_of_block (heap_alloc_new wq _)) (one_cells _) (by omega) (by unfold maxLen;omega) (by omega) (by have:=HBQ.out.size;simp;omega) _ (by rfl) ?_;intro g0 cap0 w1 hown1 hgrow hat hlt1) | (go_at_call 72;refine (mulI _ _ _).mono ?_;rw [fMul_in c0 c1 cf1 cf2];rintro r w2 ⟨rfl,hw2⟩;obtain rfl:=hw2.symm;clear hw2))
      have HB:=Hid.mk' (((HBQ.out.alloc HBQ.out.size _).drew).grown hgrow (Nat.le_trans HBQ.out.size (by simp)) (fun j hj=>(HOQ.out.lt j hj).1))
      have HP:=Hid.mk' hown1
      clear hown1 hgrow hat hlt1 HOQ HO
      go_wp2
      go_roundw
      case rel=>exact ⟨k+1,by omega,by go_num,HB.out,by rw [scT_succ,cellsL_append];exact HP.out⟩
      case measure=>simp [intOf];omega
     ·have hkn:k=n:=by omega
      subst hkn
      have HO:=Hid.mk' hown
      clear hown
      go_wp2
      go_ret
      exact ⟨_,rfl,hB,HO.out⟩
  ·have e1:polScale c f n=[]:=by simp [polScale,hc]
   rw [e1]
   have hc':c<0∨100<c:=by omega
   clear hc e1 hz h
   go_enter Tryz.func30,Tryz.ntmps30
   go_wp2_with (go_at_call 71;refine (okI_out _ _ hc').mono ?_;rintro r w' ⟨rfl,rfl⟩)
   go_ret
   exact ⟨_,rfl,Below.refl _ _,ownsT_nil _ _⟩
end Go.Proofs.YtdidlcjhodejjaaGreat
namespace Go.Proofs.YtdidlcjhodejjaaGreat
open Go.RowKit
set_option linter.unusedVariables false
def leadOk (o:Int) (n:Nat) (f:Nat→T):Bool:=decide (1≤o∧o≤3) && polOk n f && decide (0<n)
def leadT (o:Int) (n:Nat) (f:Nat→T):T:=if leadOk o n f=true then f (leadAt o f n) else ⟨0,⟨0,0,0,0⟩⟩
theorem leadT_no {o:Int} {n:Nat} {f:Nat→T} (h:leadOk o n f=false):leadT o n f=⟨0,⟨0,0,0,0⟩⟩:=by rw [leadT,if_neg (by rw [h];decide)]
theorem leadT_yes {o:Int} {n:Nat} {f:Nat→T} (h:leadOk o n f=true):leadT o n f=f (leadAt o f n):=by rw [leadT,if_pos h]
end Go.Proofs.YtdidlcjhodejjaaGreat
