/-
  A basis is made: the model's GrbMake, where it is not empty.
-/
import Derived.Test.YtelkehjdfcoeiaaGreatNbn
set_option maxHeartbeats 16000000
set_option maxRecDepth 100000
namespace Go.Proofs.YtelkehjdfcoeiaaGreat
open Go.RowKit Go.Deep Go.Joins
set_option linter.unusedVariables false
set_option linter.unusedSimpArgs false
theorem CQ (w : World) (o : Int) (a : Option Addr) (n cap : Nat) (ad : Nat → Option Addr) (cp : Nat → Nat) (L : Nat → List T) (h : eH w a n cap ad (lN L) cp (fN L)) (fu : Nat) (ho : 1 ≤ o ∧ o ≤ 3) (hl : aW n (lN L) (fN L) = true) (hn : 1 ≤ n ∧ n ≤ 3) (hf : fu ≤ 60) {G : Bs × Bool} (hG : kQ o n fu (CN n L) 0 = G) : Calls Tryz.prog 8 #[.int .i64 o, .slice a n cap, .int .i64 (fu : Int)] w (xK w n G) := by
  obtain⟨i0,hi0,hz0,hz1,hz2⟩:=info_parts pR
  obtain⟨i1,hi1,hy0,hy1,hy2⟩:=info_parts FO
  obtain⟨i2,hi2,hx0,hx1,hx2⟩:=info_parts vJ
  obtain⟨o1,o2⟩:=ho
  have hn1:(1:Int)≤(n:Int):=by omega
  have hn3:(n:Int)≤3:=by omega
  have hf0:(0:Int)≤(fu:Int):=by omega
  have hf6:(fu:Int)≤60:=by omega
  rcases h.2.2.1 with h0|⟨lb,off,rfl,hlb,hcl⟩
  · omega
  have HH:=aA h
  have HC:=aA hcl
  have HL:=aA hl
  have HG:=aA hG
  have HBK0:=aA (zL ⟨o1,o2⟩ hl)
  have HX0:=aA (eT.box w 27 (.slice none 0 0) (.slice none 0 0) (.bool false))
  have HLA:=aA (aU hl).2
  clear h hcl hG
  go_enter Tryz.func8,Tryz.ntmps8
  go_wp2_with (go_at_call 30;refine(cO _ _ _ _ (by omega) (by omega)).mono ?_;rintro r w' ⟨rfl,hw'⟩;obtain rfl:=hw'.symm;clear hw')
  refine(zW _ _ _ _ _ _ _ _ (HH.out.below (aC w (.cells #[.slice none 0 0,.slice none 0 0,.bool false] 27)))).mono ?_
  rw[hl]
  rintro r w2 ⟨rfl,hb2⟩
  have hs2:w.heap.size<w2.heap.size:=by have:=hb2.size;simp at this;omega
  have HG0:Hid (GW w w2.heap.size n o (w2.alloc (.cells #[.slice none 0 0,.slice none 0 0,.bool false] 27)) ⟨0,L,fun k=>dF k⟩ (.slice none 0 0) (.slice none 0 0) [] []):=⟨aB (aB (aC w (.cells #[.slice none 0 0,.slice none 0 0,.bool false] 27)) hb2) (aC w2 _),eT.box w2 27 _ _ _,(HX0.out.below hb2).below (aC w2 _),jG.none _ _ _ _ _ _⟩
  clear hb2 hl
  go_wp2_with (go_at_call 30;refine(cO _ _ _ _ (by omega) (by omega)).mono ?_;rintro r w' ⟨rfl,hw'⟩;obtain rfl:=hw'.symm;clear hw')
  go_loopw [8] (fun v wr=>∃(j:Nat) (tvL tvP:Value) (LS PS:List Value),j≤n∧v= .int .i64 (j:Int)∧GW w w2.heap.size n o wr ⟨j,L,fun k=>dF k⟩ tvL tvP LS PS) (fun v _=>n-(intOf v).toNat)
  case atStart=>exact⟨0,_,_,_,_,Nat.zero_le _,rfl,HG0.out⟩
  case round=>
    obtain⟨j,tvL,tvP,LS,PS,hj,rfl,hGW⟩:=hrel
    have HGW:=aA hGW
    by_cases hlt:j<n
    · have hjl:(j:Int)<(n:Int):=by omega
      obtain⟨⟨c0,c1,c2⟩,cz⟩:=hGW.box
      have hb7:w2.heap.size<wr.heap.size:=hGW.box.lt
      have hwr:w.heap.size<wr.heap.size:=hGW.res.lt
      obtain⟨A,hA⟩:∃A,L j=A:=⟨_,rfl⟩
      have hS0:wr.cell? ⟨lb,off+j,none⟩=some (.slice (ad j) A.length (cp j)):=(hGW.bel.cell (p:=⟨lb,off+j,none⟩) hlb).trans (by rw[←hA];exact HC.out j hlt)
      have hrd:RL wr (ad j) (cp j) A:=by rw[←hA];exact(HH.out.2.2.2 j hlt).below hGW.bel
      have hA0:A.length≠0:=by rw[←hA];exact(HLA.out j hlt).1
      have hA4:A.length≤400:=by rw[←hA];exact(aD (HLA.out j hlt).2).1
      obtain⟨b2,off2,e2,hb2l,_⟩:=hrd.2.2.resolve_left hA0
      rw[e2]at hS0 hrd
      have hlw:lb<wr.heap.size:=cQ wr _ hS0
      have bE:Below wr.heap.size wr (wr.alloc (.cells #[] 86)).drew:=(aC wr (.cells #[] 86)).drew
      have hown4:=dY (vV wr) (bQ _ _).drew
      have HO4:=aA hown4
      have HNEWS:=aA (BO (hrd.below bE))
      have hone:=kD A
      have hlen:(aE A).length=A.length*5:=bJ _
      have HIN:Hid (∀(g0 cap0:Nat) (w5:World),w5.ownsRow wr.heap.size 86 5 (.slice (some ⟨g0,0,none⟩) (0+A.length) cap0) (0+A.length) (aE []++aE A)→(wr.alloc (.cells #[] 86)).drew.grownBy w5 (Value.slice (some ⟨wr.heap.size,0,none⟩) 0 0).ownBlock→Below wr.heap.size wr w5∧gX wr.heap.size w5 (some ⟨g0,0,none⟩) cap0 (L j)):=fun g0 cap0 w5 h1 h2=>by
        have ho:=h1
        simp only[Nat.zero_add,show aE []++aE A=aE A from rfl]at ho
        obtain⟨a',c',e,hO⟩:=aM ho (by omega)
        obtain⟨e3,e4⟩:some ⟨g0,0,none⟩=a'∧cap0=c':=by simpa using e
        subst e3 e4
        refine⟨(bE).grown h2 (by simp) (fun k e=>by
          have:wr.heap.size=k:=by simpa[Value.ownBlock]using e
          omega),?_⟩
        rw[hA];exact hO
      have HB5:Hid (∀(w5:World),Below wr.heap.size wr w5→w5.cell? ⟨w2.heap.size,0,none⟩=some tvL∧w5.cell? ⟨lb,off+j,none⟩=some (.slice (some ⟨b2,off2,none⟩) A.length (cp j))∧(w5.alloc (.cells #[] 86)).heap.size=w5.heap.size+1):=fun w5 hb=>⟨(hb.cell (p:=⟨w2.heap.size,0,none⟩) hb7).trans c0,(hb.cell (p:=⟨lb,off+j,none⟩) hlw).trans hS0,by simp⟩
      have HA:=aA hA
      have hmax:j+1≤maxLen:=by unfold maxLen;omega
      have HS7:Hid (∀(g0 cap0 g1 cap1:Nat) (w5 w7:World),Below wr.heap.size wr w5→gX wr.heap.size w5 (some ⟨g0,0,none⟩) cap0 (L j)→w7.ownsRow w.heap.size 41 1 (.slice (some ⟨g1,0,none⟩) (j+1) cap1) (j+1) (LS++[.slice (some ⟨g0,0,none⟩) A.length cap0])→(w5.alloc (.cells #[.slice (some ⟨g0,0,none⟩) A.length cap0] 41)).grownBy w7 tvL.ownBlock→(tvL.ownBlock=some g1∨g1=(w5.alloc (.cells #[.slice (some ⟨g0,0,none⟩) A.length cap0] 41)).heap.size)→
          (eT w7 w2.heap.size tvL tvP (.bool false)∧G7 w w2.heap.size n j (w7.setCell ⟨w2.heap.size,0,none⟩ (.slice (some ⟨g1,0,none⟩) (j+1) cap1)) L (.slice (some ⟨g1,0,none⟩) (j+1) cap1) tvP (LS++[.slice (some ⟨g0,0,none⟩) A.length cap0]) PS)∧(w7.cell? ⟨lb,off+j,none⟩=some (.slice (some ⟨b2,off2,none⟩) A.length (cp j))∧lb≠w2.heap.size)):=fun g0 cap0 g1 cap1 w5 w7 h1 h2 h3 h4 h5=>by
        have hlb7:lb<w.heap.size:=hlb
        have f7:Fr (fun k=>tvL.ownBlock=some k) w5 w7:=((Fr.refl _ w5).next (aC w5 _)).grown h4 (fun k e _=>e)
        have key:=fun k1 k2 k3=>HGW.out.app1 (g1:=g1) (cap1:=cap1) (w7:=w7) hs2 h1 h2 k1 k2 k3
        rw[HA.out]at key
        refine⟨key h3 h4 h5,(f7.cell (by have:=h1.size;omega) (fun q=>by have:=(HGW.out.book.rL.lt _ q).1;omega)).trans (HB5.out w5 h1).2.1,by omega⟩
      clear hA hrd hown4 e2 hGW c1 c2 hS0
      have hS:=(HB5.out wr.drew (bQ _ _).drew).2.1
      have HBE:=aA bE
      clear bE
      go_wp2_with fail
      refine wp_region_held_drew (S:=fun u=>u.cell? ⟨lb,off+j,none⟩=some (.slice (some ⟨b2,off2,none⟩) A.length (cp j))) (by kernel_rfl) (hS) (fun hHeld=>?_)
      refine wpAnyH_take (i:=0) (v:=?_) rfl (by kernel_rfl) (by kernel_rfl) (by kernel_rfl) (fun _ _ _ h=>h) (Or.inl ⟨by rfl,?_⟩) (by assumption) ?_
      rotate_left
      · (intro w9 hSw;(try dsimp only at hSw);go_simp)<;>with_reducible rfl
      try simp only[Act.put,eD]
      refine wpAnyH_take (i:=3) (v:=?_) rfl (by kernel_rfl) (by kernel_rfl) (by kernel_rfl) (fun _ _ _ h=>h) (Or.inl ⟨by rfl,?_⟩) (by assumption) ?_
      rotate_left
      · (intro w9 hSw;(try dsimp only at hSw);go_simp)<;>with_reducible rfl
      try simp only[Act.put,eD]
      refine wpAnyH_take (i:=4) (v:=?_) rfl (by kernel_rfl) (by kernel_rfl) (by kernel_rfl) (fun _ _ _ h=>h) (Or.inl ⟨by rfl,?_⟩) (by assumption) ?_
      rotate_left
      · (intro w9 hSw;(try dsimp only at hSw);go_simp)<;>with_reducible rfl
      try simp only[Act.put,eD]
      refine wpAnyH_take (i:=5) (v:=?_) rfl (by kernel_rfl) (by kernel_rfl) (by kernel_rfl) (fun _ _ _ h=>h) (Or.inl ⟨by rfl,?_⟩) (by assumption) ?_
      rotate_left
      · (intro w9 hSw;(try dsimp only at hSw);go_simp)<;>with_reducible rfl
      try simp only[Act.put,eD]
      refine wpAnyH_take (i:=6) (v:=?_) rfl (by kernel_rfl) (by kernel_rfl) (by kernel_rfl) (fun _ _ _ h=>h) (Or.inl ⟨by rfl,?_⟩) (by assumption) ?_
      rotate_left
      · (intro w9 hSw;(try dsimp only at hSw);go_simp)<;>with_reducible rfl
      try simp only[Act.put,eD]
      refine wpAnyH_ready (rs:=[1,2]) (by kernel_rfl) (by simp) ?_
      refine AllReadyH.cons rfl (fun K hK=>?_) ?_
      rotate_left
      refine AllReadyH.cons rfl (fun K hK=>?_) AllReadyH.nil
      go_simp
      refine hK.out _ _ (by first|with_reducible exact gI h7S|with_reducible exact(HB5.out _ HBE.out).2.1|with_reducible exact(HB5.out _ HF1.out).2.1|with_reducible exact(HB5.out _ (aB HF1.out (aC w5 _))).2.1|with_reducible exact h7S.1|with_reducible exact hS) (fun hHeld2=>?_)
      clear hK K hHeld
      have hHeld:=hHeld2
      clear hHeld2
      try simp only[Act.put,eD]
      refine wpAnyH_ready (rs:=[1,7]) (by kernel_rfl) (by simp) ?_
      refine AllReadyH.cons rfl (fun K hK=>?_) ?_
      rotate_left
      refine AllReadyH.cons rfl (fun K hK=>?_) AllReadyH.nil
      (refine step_append_lies _ (by rfl) (.tmp 42) (.tmp 46) 41 (by rfl) wr.heap.size 86 i2 _ 5 40 Tryz.underlying41 hi2 hx0 hx1 hx2 rfl (by omega) _ 0 (aE []) (by rfl) HO4.out ⟨b2,off2,none⟩ A.length (cp j) (aE A) (by rfl) hlen HNEWS.out hone (by omega) (by unfold maxLen;omega) (by omega) (by simp) _ (by rfl) ?_;intro g0 cap0 w5 hown1 hgrow hat hlt1;obtain⟨f1,f2⟩:=HIN.out g0 cap0 w5 hown1 hgrow;have HF1:=aA f1;have HF2:=aA f2;have c5:=(HB5.out w5 f1).1;have c6:=(HB5.out _ (aB f1 (aC w5 (.cells #[.slice (some ⟨g0,0,none⟩) A.length cap0] 41)))).1;have hs5:wr.heap.size≤w5.heap.size:=f1.size;clear hown1 hgrow hat hlt1 f1 f2;simp only[Nat.zero_add])
      refine hK.out _ _ (by first|with_reducible exact gI h7S|with_reducible exact(HB5.out _ HBE.out).2.1|with_reducible exact(HB5.out _ HF1.out).2.1|with_reducible exact(HB5.out _ (aB HF1.out (aC w5 _))).2.1|with_reducible exact h7S.1|with_reducible exact hS) (fun hHeld2=>?_)
      clear hK K hHeld
      have hHeld:=hHeld2
      clear hHeld2
      try simp only[Act.put,eD]
      refine wpAnyH_ready (rs:=[1,8]) (by kernel_rfl) (by simp) ?_
      refine AllReadyH.cons rfl (fun K hK=>?_) ?_
      rotate_left
      refine AllReadyH.cons rfl (fun K hK=>?_) AllReadyH.nil
      go_simp
      refine hK.out _ _ (by first|with_reducible exact gI h7S|with_reducible exact(HB5.out _ HBE.out).2.1|with_reducible exact(HB5.out _ HF1.out).2.1|with_reducible exact(HB5.out _ (aB HF1.out (aC w5 _))).2.1|with_reducible exact h7S.1|with_reducible exact hS) (fun hHeld2=>?_)
      clear hK K hHeld
      have hHeld:=hHeld2
      clear hHeld2
      try simp only[Act.put,eD]
      refine wpAnyH_ready (rs:=[1]) (by kernel_rfl) (by simp) ?_
      refine AllReadyH.cons rfl (fun K hK=>?_) AllReadyH.nil
      go_simp
      refine hK.out _ _ (by first|with_reducible exact gI h7S|with_reducible exact(HB5.out _ HBE.out).2.1|with_reducible exact(HB5.out _ HF1.out).2.1|with_reducible exact(HB5.out _ (aB HF1.out (aC w5 _))).2.1|with_reducible exact h7S.1|with_reducible exact hS) (fun hHeld2=>?_)
      clear hK K hHeld
      have hHeld:=hHeld2
      clear hHeld2
      try simp only[Act.put,eD]
      refine wpAnyH_ready (rs:=[9]) (by kernel_rfl) (by simp) ?_
      refine AllReadyH.cons rfl (fun K hK=>?_) AllReadyH.nil
      (refine step_append_lies _ (by rfl) (.tmp 41) (.tmp 48) 24 (by rfl) w.heap.size 41 i0 _ 1 24 Tryz.underlying24 hi0 hz0 hz1 hz2 rfl (by omega) _ j LS (by rfl) ((HGW.out.below HF1.out).book.rL.alloc _) ⟨w5.heap.size,0,none⟩ 1 1 [.slice (some ⟨g0,0,none⟩) A.length cap0] (by rfl) (by rfl) (World.news_of_block (heap_alloc_new w5 _)) (gQ _ _ _) (by omega) hmax (by omega) (by simp;omega) _ (by rfl) ?_;intro g1 cap1 w7 hown2 hgrow2 hat2 hlt2;have HP7:=aA (HS7.out g0 cap0 g1 cap1 w5 w7 HF1.out HF2.out hown2 hgrow2 hat2);obtain⟨⟨d0,d1,d2⟩,dz⟩:=HP7.out.1.1;have h7S:=HP7.out.2;clear hown2 hgrow2 hat2 hlt2 c5 c6 c0 cz)
      refine hK.out _ _ (by first|with_reducible exact gI h7S|with_reducible exact(HB5.out _ HBE.out).2.1|with_reducible exact(HB5.out _ HF1.out).2.1|with_reducible exact(HB5.out _ (aB HF1.out (aC w5 _))).2.1|with_reducible exact h7S.1|with_reducible exact hS) (fun hHeld2=>?_)
      clear hK K hHeld
      have hHeld:=hHeld2
      clear hHeld2
      try simp only[Act.put,eD]
      refine wpAnyH_take (i:=10) (v:=?_) rfl (by kernel_rfl) (by kernel_rfl) (by kernel_rfl) (fun _ _ _ h=>h) (Or.inl ⟨by rfl,?_⟩) (by assumption) ?_
      rotate_left
      · (intro w9 hSw;(try dsimp only at hSw);go_simp)<;>with_reducible rfl
      try simp only[Act.put,eD]
      refine wpAnyH_ready (rs:=[11]) (by kernel_rfl) (by simp) ?_
      refine AllReadyH.cons rfl (fun K hK=>?_) AllReadyH.nil
      go_simp
      refine hK.out _ _ (by first|with_reducible exact gI h7S|with_reducible exact(HB5.out _ HBE.out).2.1|with_reducible exact(HB5.out _ HF1.out).2.1|with_reducible exact(HB5.out _ (aB HF1.out (aC w5 _))).2.1|with_reducible exact h7S.1|with_reducible exact hS) (fun hHeld2=>?_)
      clear hK K hHeld
      have hHeld:=hHeld2
      clear hHeld2
      try simp only[Act.put,eD]
      refine wpAnyH_done (by kernel_rfl) ?_ _
      rotate_left
      go_simp
      refine hK.out _ _ (by first|with_reducible exact gI h7S|with_reducible exact(HB5.out _ HBE.out).2.1|with_reducible exact(HB5.out _ HF1.out).2.1|with_reducible exact(HB5.out _ (aB HF1.out (aC w5 _))).2.1|with_reducible exact h7S.1|with_reducible exact hS) (fun hHeld2=>?_)
      clear hK K hHeld
      have hHeld:=hHeld2
      clear hHeld2
      try simp only[Act.put,eD]
      refine wpAnyH_ready (rs:=[2]) (by kernel_rfl) (by simp) ?_
      refine AllReadyH.cons rfl (fun K hK=>?_) AllReadyH.nil
      go_simp
      refine hK.out _ _ (by first|with_reducible exact gI h7S|with_reducible exact(HB5.out _ HBE.out).2.1|with_reducible exact(HB5.out _ HF1.out).2.1|with_reducible exact(HB5.out _ (aB HF1.out (aC w5 _))).2.1|with_reducible exact h7S.1|with_reducible exact hS) (fun hHeld2=>?_)
      clear hK K hHeld
      have hHeld:=hHeld2
      clear hHeld2
      try simp only[Act.put,eD]
      refine wpAnyH_ready (rs:=[7]) (by kernel_rfl) (by simp) ?_
      refine AllReadyH.cons rfl (fun K hK=>?_) AllReadyH.nil
      (refine step_append_lies _ (by rfl) (.tmp 42) (.tmp 46) 41 (by rfl) wr.heap.size 86 i2 _ 5 40 Tryz.underlying41 hi2 hx0 hx1 hx2 rfl (by omega) _ 0 (aE []) (by rfl) HO4.out ⟨b2,off2,none⟩ A.length (cp j) (aE A) (by rfl) hlen HNEWS.out hone (by omega) (by unfold maxLen;omega) (by omega) (by simp) _ (by rfl) ?_;intro g0 cap0 w5 hown1 hgrow hat hlt1;obtain⟨f1,f2⟩:=HIN.out g0 cap0 w5 hown1 hgrow;have HF1:=aA f1;have HF2:=aA f2;have c5:=(HB5.out w5 f1).1;have c6:=(HB5.out _ (aB f1 (aC w5 (.cells #[.slice (some ⟨g0,0,none⟩) A.length cap0] 41)))).1;have hs5:wr.heap.size≤w5.heap.size:=f1.size;clear hown1 hgrow hat hlt1 f1 f2;simp only[Nat.zero_add])
      refine hK.out _ _ (by first|with_reducible exact gI h7S|with_reducible exact(HB5.out _ HBE.out).2.1|with_reducible exact(HB5.out _ HF1.out).2.1|with_reducible exact(HB5.out _ (aB HF1.out (aC w5 _))).2.1|with_reducible exact h7S.1|with_reducible exact hS) (fun hHeld2=>?_)
      clear hK K hHeld
      have hHeld:=hHeld2
      clear hHeld2
      try simp only[Act.put,eD]
      refine wpAnyH_ready (rs:=[8]) (by kernel_rfl) (by simp) ?_
      refine AllReadyH.cons rfl (fun K hK=>?_) AllReadyH.nil
      go_simp
      refine hK.out _ _ (by first|with_reducible exact gI h7S|with_reducible exact(HB5.out _ HBE.out).2.1|with_reducible exact(HB5.out _ HF1.out).2.1|with_reducible exact(HB5.out _ (aB HF1.out (aC w5 _))).2.1|with_reducible exact h7S.1|with_reducible exact hS) (fun hHeld2=>?_)
      clear hK K hHeld
      have hHeld:=hHeld2
      clear hHeld2
      try simp only[Act.put,eD]
      refine wpAnyH_ready (rs:=[9]) (by kernel_rfl) (by simp) ?_
      refine AllReadyH.cons rfl (fun K hK=>?_) AllReadyH.nil
      (refine step_append_lies _ (by rfl) (.tmp 41) (.tmp 48) 24 (by rfl) w.heap.size 41 i0 _ 1 24 Tryz.underlying24 hi0 hz0 hz1 hz2 rfl (by omega) _ j LS (by rfl) ((HGW.out.below HF1.out).book.rL.alloc _) ⟨w5.heap.size,0,none⟩ 1 1 [.slice (some ⟨g0,0,none⟩) A.length cap0] (by rfl) (by rfl) (World.news_of_block (heap_alloc_new w5 _)) (gQ _ _ _) (by omega) hmax (by omega) (by simp;omega) _ (by rfl) ?_;intro g1 cap1 w7 hown2 hgrow2 hat2 hlt2;have HP7:=aA (HS7.out g0 cap0 g1 cap1 w5 w7 HF1.out HF2.out hown2 hgrow2 hat2);obtain⟨⟨d0,d1,d2⟩,dz⟩:=HP7.out.1.1;have h7S:=HP7.out.2;clear hown2 hgrow2 hat2 hlt2 c5 c6 c0 cz)
      refine hK.out _ _ (by first|with_reducible exact gI h7S|with_reducible exact(HB5.out _ HBE.out).2.1|with_reducible exact(HB5.out _ HF1.out).2.1|with_reducible exact(HB5.out _ (aB HF1.out (aC w5 _))).2.1|with_reducible exact h7S.1|with_reducible exact hS) (fun hHeld2=>?_)
      clear hK K hHeld
      have hHeld:=hHeld2
      clear hHeld2
      try simp only[Act.put,eD]
      refine wpAnyH_take (i:=10) (v:=?_) rfl (by kernel_rfl) (by kernel_rfl) (by kernel_rfl) (fun _ _ _ h=>h) (Or.inl ⟨by rfl,?_⟩) (by assumption) ?_
      rotate_left
      · (intro w9 hSw;(try dsimp only at hSw);go_simp)<;>with_reducible rfl
      try simp only[Act.put,eD]
      refine wpAnyH_ready (rs:=[11]) (by kernel_rfl) (by simp) ?_
      refine AllReadyH.cons rfl (fun K hK=>?_) AllReadyH.nil
      go_simp
      refine hK.out _ _ (by first|with_reducible exact gI h7S|with_reducible exact(HB5.out _ HBE.out).2.1|with_reducible exact(HB5.out _ HF1.out).2.1|with_reducible exact(HB5.out _ (aB HF1.out (aC w5 _))).2.1|with_reducible exact h7S.1|with_reducible exact hS) (fun hHeld2=>?_)
      clear hK K hHeld
      have hHeld:=hHeld2
      clear hHeld2
      try simp only[Act.put,eD]
      refine wpAnyH_done (by kernel_rfl) ?_ _
      rotate_left
      go_simp
      refine hK.out _ _ (by first|with_reducible exact gI h7S|with_reducible exact(HB5.out _ HBE.out).2.1|with_reducible exact(HB5.out _ HF1.out).2.1|with_reducible exact(HB5.out _ (aB HF1.out (aC w5 _))).2.1|with_reducible exact h7S.1|with_reducible exact hS) (fun hHeld2=>?_)
      clear hK K hHeld
      have hHeld:=hHeld2
      clear hHeld2
      try simp only[Act.put,eD]
      refine wpAnyH_ready (rs:=[7]) (by kernel_rfl) (by simp) ?_
      refine AllReadyH.cons rfl (fun K hK=>?_) AllReadyH.nil
      (refine step_append_lies _ (by rfl) (.tmp 42) (.tmp 46) 41 (by rfl) wr.heap.size 86 i2 _ 5 40 Tryz.underlying41 hi2 hx0 hx1 hx2 rfl (by omega) _ 0 (aE []) (by rfl) HO4.out ⟨b2,off2,none⟩ A.length (cp j) (aE A) (by rfl) hlen HNEWS.out hone (by omega) (by unfold maxLen;omega) (by omega) (by simp) _ (by rfl) ?_;intro g0 cap0 w5 hown1 hgrow hat hlt1;obtain⟨f1,f2⟩:=HIN.out g0 cap0 w5 hown1 hgrow;have HF1:=aA f1;have HF2:=aA f2;have c5:=(HB5.out w5 f1).1;have c6:=(HB5.out _ (aB f1 (aC w5 (.cells #[.slice (some ⟨g0,0,none⟩) A.length cap0] 41)))).1;have hs5:wr.heap.size≤w5.heap.size:=f1.size;clear hown1 hgrow hat hlt1 f1 f2;simp only[Nat.zero_add])
      refine hK.out _ _ (by first|with_reducible exact gI h7S|with_reducible exact(HB5.out _ HBE.out).2.1|with_reducible exact(HB5.out _ HF1.out).2.1|with_reducible exact(HB5.out _ (aB HF1.out (aC w5 _))).2.1|with_reducible exact h7S.1|with_reducible exact hS) (fun hHeld2=>?_)
      clear hK K hHeld
      have hHeld:=hHeld2
      clear hHeld2
      try simp only[Act.put,eD]
      refine wpAnyH_ready (rs:=[8]) (by kernel_rfl) (by simp) ?_
      refine AllReadyH.cons rfl (fun K hK=>?_) AllReadyH.nil
      go_simp
      refine hK.out _ _ (by first|with_reducible exact gI h7S|with_reducible exact(HB5.out _ HBE.out).2.1|with_reducible exact(HB5.out _ HF1.out).2.1|with_reducible exact(HB5.out _ (aB HF1.out (aC w5 _))).2.1|with_reducible exact h7S.1|with_reducible exact hS) (fun hHeld2=>?_)
      clear hK K hHeld
      have hHeld:=hHeld2
      clear hHeld2
      try simp only[Act.put,eD]
      refine wpAnyH_ready (rs:=[9]) (by kernel_rfl) (by simp) ?_
      refine AllReadyH.cons rfl (fun K hK=>?_) AllReadyH.nil
      (refine step_append_lies _ (by rfl) (.tmp 41) (.tmp 48) 24 (by rfl) w.heap.size 41 i0 _ 1 24 Tryz.underlying24 hi0 hz0 hz1 hz2 rfl (by omega) _ j LS (by rfl) ((HGW.out.below HF1.out).book.rL.alloc _) ⟨w5.heap.size,0,none⟩ 1 1 [.slice (some ⟨g0,0,none⟩) A.length cap0] (by rfl) (by rfl) (World.news_of_block (heap_alloc_new w5 _)) (gQ _ _ _) (by omega) hmax (by omega) (by simp;omega) _ (by rfl) ?_;intro g1 cap1 w7 hown2 hgrow2 hat2 hlt2;have HP7:=aA (HS7.out g0 cap0 g1 cap1 w5 w7 HF1.out HF2.out hown2 hgrow2 hat2);obtain⟨⟨d0,d1,d2⟩,dz⟩:=HP7.out.1.1;have h7S:=HP7.out.2;clear hown2 hgrow2 hat2 hlt2 c5 c6 c0 cz)
      refine hK.out _ _ (by first|with_reducible exact gI h7S|with_reducible exact(HB5.out _ HBE.out).2.1|with_reducible exact(HB5.out _ HF1.out).2.1|with_reducible exact(HB5.out _ (aB HF1.out (aC w5 _))).2.1|with_reducible exact h7S.1|with_reducible exact hS) (fun hHeld2=>?_)
      clear hK K hHeld
      have hHeld:=hHeld2
      clear hHeld2
      try simp only[Act.put,eD]
      refine wpAnyH_take (i:=10) (v:=?_) rfl (by kernel_rfl) (by kernel_rfl) (by kernel_rfl) (fun _ _ _ h=>h) (Or.inl ⟨by rfl,?_⟩) (by assumption) ?_
      rotate_left
      · (intro w9 hSw;(try dsimp only at hSw);go_simp)<;>with_reducible rfl
      try simp only[Act.put,eD]
      refine wpAnyH_ready (rs:=[11]) (by kernel_rfl) (by simp) ?_
      refine AllReadyH.cons rfl (fun K hK=>?_) AllReadyH.nil
      go_simp
      refine hK.out _ _ (by first|with_reducible exact gI h7S|with_reducible exact(HB5.out _ HBE.out).2.1|with_reducible exact(HB5.out _ HF1.out).2.1|with_reducible exact(HB5.out _ (aB HF1.out (aC w5 _))).2.1|with_reducible exact h7S.1|with_reducible exact hS) (fun hHeld2=>?_)
      clear hK K hHeld
      have hHeld:=hHeld2
      clear hHeld2
      try simp only[Act.put,eD]
      refine wpAnyH_done (by kernel_rfl) ?_ _
      rotate_left
      go_simp
      refine hK.out _ _ (by first|with_reducible exact gI h7S|with_reducible exact(HB5.out _ HBE.out).2.1|with_reducible exact(HB5.out _ HF1.out).2.1|with_reducible exact(HB5.out _ (aB HF1.out (aC w5 _))).2.1|with_reducible exact h7S.1|with_reducible exact hS) (fun hHeld2=>?_)
      clear hK K hHeld
      have hHeld:=hHeld2
      clear hHeld2
      try simp only[Act.put,eD]
      refine wpAnyH_ready (rs:=[8]) (by kernel_rfl) (by simp) ?_
      refine AllReadyH.cons rfl (fun K hK=>?_) AllReadyH.nil
      go_simp
      refine hK.out _ _ (by first|with_reducible exact gI h7S|with_reducible exact(HB5.out _ HBE.out).2.1|with_reducible exact(HB5.out _ HF1.out).2.1|with_reducible exact(HB5.out _ (aB HF1.out (aC w5 _))).2.1|with_reducible exact h7S.1|with_reducible exact hS) (fun hHeld2=>?_)
      clear hK K hHeld
      have hHeld:=hHeld2
      clear hHeld2
      try simp only[Act.put,eD]
      refine wpAnyH_ready (rs:=[9]) (by kernel_rfl) (by simp) ?_
      refine AllReadyH.cons rfl (fun K hK=>?_) AllReadyH.nil
      (refine step_append_lies _ (by rfl) (.tmp 41) (.tmp 48) 24 (by rfl) w.heap.size 41 i0 _ 1 24 Tryz.underlying24 hi0 hz0 hz1 hz2 rfl (by omega) _ j LS (by rfl) ((HGW.out.below HF1.out).book.rL.alloc _) ⟨w5.heap.size,0,none⟩ 1 1 [.slice (some ⟨g0,0,none⟩) A.length cap0] (by rfl) (by rfl) (World.news_of_block (heap_alloc_new w5 _)) (gQ _ _ _) (by omega) hmax (by omega) (by simp;omega) _ (by rfl) ?_;intro g1 cap1 w7 hown2 hgrow2 hat2 hlt2;have HP7:=aA (HS7.out g0 cap0 g1 cap1 w5 w7 HF1.out HF2.out hown2 hgrow2 hat2);obtain⟨⟨d0,d1,d2⟩,dz⟩:=HP7.out.1.1;have h7S:=HP7.out.2;clear hown2 hgrow2 hat2 hlt2 c5 c6 c0 cz)
      refine hK.out _ _ (by first|with_reducible exact gI h7S|with_reducible exact(HB5.out _ HBE.out).2.1|with_reducible exact(HB5.out _ HF1.out).2.1|with_reducible exact(HB5.out _ (aB HF1.out (aC w5 _))).2.1|with_reducible exact h7S.1|with_reducible exact hS) (fun hHeld2=>?_)
      clear hK K hHeld
      have hHeld:=hHeld2
      clear hHeld2
      try simp only[Act.put,eD]
      refine wpAnyH_take (i:=10) (v:=?_) rfl (by kernel_rfl) (by kernel_rfl) (by kernel_rfl) (fun _ _ _ h=>h) (Or.inl ⟨by rfl,?_⟩) (by assumption) ?_
      rotate_left
      · (intro w9 hSw;(try dsimp only at hSw);go_simp)<;>with_reducible rfl
      try simp only[Act.put,eD]
      refine wpAnyH_ready (rs:=[11]) (by kernel_rfl) (by simp) ?_
      refine AllReadyH.cons rfl (fun K hK=>?_) AllReadyH.nil
      go_simp
      refine hK.out _ _ (by first|with_reducible exact gI h7S|with_reducible exact(HB5.out _ HBE.out).2.1|with_reducible exact(HB5.out _ HF1.out).2.1|with_reducible exact(HB5.out _ (aB HF1.out (aC w5 _))).2.1|with_reducible exact h7S.1|with_reducible exact hS) (fun hHeld2=>?_)
      clear hK K hHeld
      have hHeld:=hHeld2
      clear hHeld2
      try simp only[Act.put,eD]
      refine wpAnyH_done (by kernel_rfl) ?_ _
      rotate_left
      all_goals(
        have HG7:=aA HP7.out.1.2
        have hmax3:j+1≤maxLen:=hmax
        clear HP7 d0 d1 d2 dz h7S HS7 HF1 HF2 HO4 HNEWS HIN HB5 HBE hS hone hlen hs5 HG0
        generalize(w7.setCell ⟨w2.heap.size,0,none⟩ (.slice (some ⟨g1,0,none⟩) (j+1) cap1))=W7 at HG7⊢
        obtain⟨⟨e0,e1,e2⟩,ez⟩:=HG7.out.box
        have hb77:w2.heap.size<W7.heap.size:=HG7.out.box.lt
        have hw7:w.heap.size<W7.heap.size:=HG7.out.res.lt
        have HE1:=aA e1
        clear e0 e2
        go_wp2_with fail
        refine wp_region_held_drew (S:=fun _=>True) (by kernel_rfl) (trivial) (fun hHeld=>?_)
        refine wpAnyH_take (i:=0) (v:=?_) rfl (by kernel_rfl) (by kernel_rfl) (by kernel_rfl) (fun _ _ _ h=>h) (Or.inl ⟨by rfl,?_⟩) (by assumption) ?_
        rotate_left
        · (intro w9 hSw;(try dsimp only at hSw);go_simp)<;>with_reducible rfl
        try simp only[Act.put,eD]
        refine wpAnyH_take (i:=2) (v:=?_) rfl (by kernel_rfl) (by kernel_rfl) (by kernel_rfl) (fun _ _ _ h=>h) (Or.inl ⟨by rfl,?_⟩) (by assumption) ?_
        rotate_left
        · (intro w9 hSw;(try dsimp only at hSw);go_simp)<;>with_reducible rfl
        try simp only[Act.put,eD]
        refine wpAnyH_take (i:=3) (v:=?_) rfl (by kernel_rfl) (by kernel_rfl) (by kernel_rfl) (fun _ _ _ h=>h) (Or.inl ⟨by rfl,?_⟩) (by assumption) ?_
        rotate_left
        · (intro w9 hSw;(try dsimp only at hSw);go_simp)<;>with_reducible rfl
        try simp only[Act.put,eD]
        refine wpAnyH_take (i:=4) (v:=?_) rfl (by kernel_rfl) (by kernel_rfl) (by kernel_rfl) (fun _ _ _ h=>h) (Or.inl ⟨by rfl,?_⟩) (by assumption) ?_
        rotate_left
        · (intro w9 hSw;(try dsimp only at hSw);go_simp)<;>with_reducible rfl
        try simp only[Act.put,eD]
        refine wpAnyH_ready (rs:=[1,5]) (by kernel_rfl) (by simp) ?_
        refine AllReadyH.cons rfl (fun K hK=>?_) ?_
        rotate_left
        refine AllReadyH.cons rfl (fun K hK=>?_) AllReadyH.nil
        go_simp
        go_wp2_with (go_at_call 32;refine(FP _ n (j:Int) (by omega)).mono ?_;rw[yP];rintro e w8 ⟨ra,rc,rad,rcp,rRb,rB,rfl,b8,ho8⟩;have b8':Below W7.heap.size W7 w8:=aB (bQ _ _).drew b8;have HB8:=aA b8';have HO8:=aA ho8;have d1:w8.cell? ⟨w2.heap.size,1,none⟩=some tvP:=(b8'.cell (p:=⟨w2.heap.size,1,none⟩) hb77).trans HE1.out;have d2:(w8.alloc (.cells #[.slice ra n rc] 24)).cell? ⟨w2.heap.size,1,none⟩=some tvP:=((aB b8' (aC w8 (.cells #[.slice ra n rc] 24))).cell (p:=⟨w2.heap.size,1,none⟩) hb77).trans HE1.out;have hs8:W7.heap.size≤w8.heap.size:=b8'.size;clear b8 b8' ho8)
        refine hK.out _ _ (by trivial) (fun hHeld2=>?_)
        clear hK K hHeld
        have hHeld:=hHeld2
        clear hHeld2
        try simp only[Act.put,eD]
        refine wpAnyH_ready (rs:=[1,6]) (by kernel_rfl) (by simp) ?_
        refine AllReadyH.cons rfl (fun K hK=>?_) ?_
        rotate_left
        refine AllReadyH.cons rfl (fun K hK=>?_) AllReadyH.nil
        go_simp
        refine hK.out _ _ (by trivial) (fun hHeld2=>?_)
        clear hK K hHeld
        have hHeld:=hHeld2
        clear hHeld2
        try simp only[Act.put,eD]
        refine wpAnyH_ready (rs:=[1]) (by kernel_rfl) (by simp) ?_
        refine AllReadyH.cons rfl (fun K hK=>?_) AllReadyH.nil
        go_simp
        refine hK.out _ _ (by trivial) (fun hHeld2=>?_)
        clear hK K hHeld
        have hHeld:=hHeld2
        clear hHeld2
        try simp only[Act.put,eD]
        refine wpAnyH_ready (rs:=[7]) (by kernel_rfl) (by simp) ?_
        refine AllReadyH.cons rfl (fun K hK=>?_) AllReadyH.nil
        (refine step_append_lies _ (by rfl) (.tmp 52) (.tmp 57) 25 (by rfl) w.heap.size 24 i1 _ 1 24 Tryz.underlying25 hi1 hy0 hy1 hy2 rfl (by omega) _ j PS (by rfl) ((HG7.out.below HB8.out).book.rP.alloc _) ⟨w8.heap.size,0,none⟩ 1 1 [.slice ra n rc] (by rfl) (by rfl) (World.news_of_block (heap_alloc_new w8 _)) (gQ _ _ _) (by omega) hmax3 (by omega) (by simp;omega) _ (by rfl) ?_;intro g2 cap2 w10 hown3 hgrow3 hat3 hlt3;have HP9:=aA (HG7.out.app2 (o:=o) hs2 HB8.out (by simp) HO8.out hown3 hgrow3 hat3);obtain⟨⟨f0,f1,f2⟩,fz⟩:=HP9.out.1;clear hown3 hgrow3 hat3 hlt3 d1 d2 e1 ez)
        refine hK.out _ _ (by trivial) (fun hHeld2=>?_)
        clear hK K hHeld
        have hHeld:=hHeld2
        clear hHeld2
        try simp only[Act.put,eD]
        refine wpAnyH_take (i:=8) (v:=?_) rfl (by kernel_rfl) (by kernel_rfl) (by kernel_rfl) (fun _ _ _ h=>h) (Or.inl ⟨by rfl,?_⟩) (by assumption) ?_
        rotate_left
        · (intro w9 hSw;(try dsimp only at hSw);go_simp)<;>with_reducible rfl
        try simp only[Act.put,eD]
        refine wpAnyH_ready (rs:=[9]) (by kernel_rfl) (by simp) ?_
        refine AllReadyH.cons rfl (fun K hK=>?_) AllReadyH.nil
        go_simp
        refine hK.out _ _ (by trivial) (fun hHeld2=>?_)
        clear hK K hHeld
        have hHeld:=hHeld2
        clear hHeld2
        try simp only[Act.put,eD]
        refine wpAnyH_done (by kernel_rfl) ?_ _
        rotate_left
        go_simp
        refine hK.out _ _ (by trivial) (fun hHeld2=>?_)
        clear hK K hHeld
        have hHeld:=hHeld2
        clear hHeld2
        try simp only[Act.put,eD]
        refine wpAnyH_ready (rs:=[5]) (by kernel_rfl) (by simp) ?_
        refine AllReadyH.cons rfl (fun K hK=>?_) AllReadyH.nil
        go_simp
        go_wp2_with (go_at_call 32;refine(FP _ n (j:Int) (by omega)).mono ?_;rw[yP];rintro e w8 ⟨ra,rc,rad,rcp,rRb,rB,rfl,b8,ho8⟩;have b8':Below W7.heap.size W7 w8:=aB (bQ _ _).drew b8;have HB8:=aA b8';have HO8:=aA ho8;have d1:w8.cell? ⟨w2.heap.size,1,none⟩=some tvP:=(b8'.cell (p:=⟨w2.heap.size,1,none⟩) hb77).trans HE1.out;have d2:(w8.alloc (.cells #[.slice ra n rc] 24)).cell? ⟨w2.heap.size,1,none⟩=some tvP:=((aB b8' (aC w8 (.cells #[.slice ra n rc] 24))).cell (p:=⟨w2.heap.size,1,none⟩) hb77).trans HE1.out;have hs8:W7.heap.size≤w8.heap.size:=b8'.size;clear b8 b8' ho8)
        refine hK.out _ _ (by trivial) (fun hHeld2=>?_)
        clear hK K hHeld
        have hHeld:=hHeld2
        clear hHeld2
        try simp only[Act.put,eD]
        refine wpAnyH_ready (rs:=[6]) (by kernel_rfl) (by simp) ?_
        refine AllReadyH.cons rfl (fun K hK=>?_) AllReadyH.nil
        go_simp
        refine hK.out _ _ (by trivial) (fun hHeld2=>?_)
        clear hK K hHeld
        have hHeld:=hHeld2
        clear hHeld2
        try simp only[Act.put,eD]
        refine wpAnyH_ready (rs:=[7]) (by kernel_rfl) (by simp) ?_
        refine AllReadyH.cons rfl (fun K hK=>?_) AllReadyH.nil
        (refine step_append_lies _ (by rfl) (.tmp 52) (.tmp 57) 25 (by rfl) w.heap.size 24 i1 _ 1 24 Tryz.underlying25 hi1 hy0 hy1 hy2 rfl (by omega) _ j PS (by rfl) ((HG7.out.below HB8.out).book.rP.alloc _) ⟨w8.heap.size,0,none⟩ 1 1 [.slice ra n rc] (by rfl) (by rfl) (World.news_of_block (heap_alloc_new w8 _)) (gQ _ _ _) (by omega) hmax3 (by omega) (by simp;omega) _ (by rfl) ?_;intro g2 cap2 w10 hown3 hgrow3 hat3 hlt3;have HP9:=aA (HG7.out.app2 (o:=o) hs2 HB8.out (by simp) HO8.out hown3 hgrow3 hat3);obtain⟨⟨f0,f1,f2⟩,fz⟩:=HP9.out.1;clear hown3 hgrow3 hat3 hlt3 d1 d2 e1 ez)
        refine hK.out _ _ (by trivial) (fun hHeld2=>?_)
        clear hK K hHeld
        have hHeld:=hHeld2
        clear hHeld2
        try simp only[Act.put,eD]
        refine wpAnyH_take (i:=8) (v:=?_) rfl (by kernel_rfl) (by kernel_rfl) (by kernel_rfl) (fun _ _ _ h=>h) (Or.inl ⟨by rfl,?_⟩) (by assumption) ?_
        rotate_left
        · (intro w9 hSw;(try dsimp only at hSw);go_simp)<;>with_reducible rfl
        try simp only[Act.put,eD]
        refine wpAnyH_ready (rs:=[9]) (by kernel_rfl) (by simp) ?_
        refine AllReadyH.cons rfl (fun K hK=>?_) AllReadyH.nil
        go_simp
        refine hK.out _ _ (by trivial) (fun hHeld2=>?_)
        clear hK K hHeld
        have hHeld:=hHeld2
        clear hHeld2
        try simp only[Act.put,eD]
        refine wpAnyH_done (by kernel_rfl) ?_ _
        rotate_left
        go_simp
        refine hK.out _ _ (by trivial) (fun hHeld2=>?_)
        clear hK K hHeld
        have hHeld:=hHeld2
        clear hHeld2
        try simp only[Act.put,eD]
        refine wpAnyH_ready (rs:=[6]) (by kernel_rfl) (by simp) ?_
        refine AllReadyH.cons rfl (fun K hK=>?_) AllReadyH.nil
        go_simp
        refine hK.out _ _ (by trivial) (fun hHeld2=>?_)
        clear hK K hHeld
        have hHeld:=hHeld2
        clear hHeld2
        try simp only[Act.put,eD]
        refine wpAnyH_ready (rs:=[7]) (by kernel_rfl) (by simp) ?_
        refine AllReadyH.cons rfl (fun K hK=>?_) AllReadyH.nil
        (refine step_append_lies _ (by rfl) (.tmp 52) (.tmp 57) 25 (by rfl) w.heap.size 24 i1 _ 1 24 Tryz.underlying25 hi1 hy0 hy1 hy2 rfl (by omega) _ j PS (by rfl) ((HG7.out.below HB8.out).book.rP.alloc _) ⟨w8.heap.size,0,none⟩ 1 1 [.slice ra n rc] (by rfl) (by rfl) (World.news_of_block (heap_alloc_new w8 _)) (gQ _ _ _) (by omega) hmax3 (by omega) (by simp;omega) _ (by rfl) ?_;intro g2 cap2 w10 hown3 hgrow3 hat3 hlt3;have HP9:=aA (HG7.out.app2 (o:=o) hs2 HB8.out (by simp) HO8.out hown3 hgrow3 hat3);obtain⟨⟨f0,f1,f2⟩,fz⟩:=HP9.out.1;clear hown3 hgrow3 hat3 hlt3 d1 d2 e1 ez)
        refine hK.out _ _ (by trivial) (fun hHeld2=>?_)
        clear hK K hHeld
        have hHeld:=hHeld2
        clear hHeld2
        try simp only[Act.put,eD]
        refine wpAnyH_take (i:=8) (v:=?_) rfl (by kernel_rfl) (by kernel_rfl) (by kernel_rfl) (fun _ _ _ h=>h) (Or.inl ⟨by rfl,?_⟩) (by assumption) ?_
        rotate_left
        · (intro w9 hSw;(try dsimp only at hSw);go_simp)<;>with_reducible rfl
        try simp only[Act.put,eD]
        refine wpAnyH_ready (rs:=[9]) (by kernel_rfl) (by simp) ?_
        refine AllReadyH.cons rfl (fun K hK=>?_) AllReadyH.nil
        go_simp
        refine hK.out _ _ (by trivial) (fun hHeld2=>?_)
        clear hK K hHeld
        have hHeld:=hHeld2
        clear hHeld2
        try simp only[Act.put,eD]
        refine wpAnyH_done (by kernel_rfl) ?_ _
        rotate_left
        all_goals(
          go_wp2
          go_roundw
          case rel=>exact⟨j+1,_,_,_,_,by omega,by go_num,HP9.out.2⟩
          case measure=>simp[intOf];omega))
    · have hjn:¬(j:Int)<(n:Int):=by omega
      have hje:j=n:=by omega
      subst hje
      clear HG0 HX0 HC HLA hGW
      go_wp2
      go_loopw [9,2] (fun vk vf wk=>∃(k f:Nat) (B:Bs) (tvL tvP:Value) (LS PS:List Value),1≤k∧k≤12∧vk= .int .i64 (k:Int)∧vf= .int .i64 (f:Int)∧f≤60∧GW w w2.heap.size j o wk B tvL tvP LS PS∧wZ o j B∧kQ o j f B (bA k)=G) (fun vk _ _=>13-(intOf vk).toNat)
      case atStart=>exact⟨1,fu,CN j L,_,_,_,_,Nat.le_refl _,by omega,rfl,rfl,hf,HGW.out,HBK0.out,HG.out⟩
      case round=>
        obtain⟨k,f,B,tvL,tvP,LS,PS,hk1,hk12,rfl,rfl,hf60,hGWk,hBk,hgk⟩:=hrel
        have HGWk:=aA hGWk
        have HBk:=aA hBk
        have HGk:=aA hgk
        have m12:=(aU hBk.l).1
        obtain⟨la,lc,lad,lcp,rfl,hrl⟩:=hGWk.book.readL (by omega)
        obtain⟨pa,pc,pA,pC,pAD,pCP,rfl,_⟩:=hGWk.book.readP (by omega)
        obtain⟨⟨c0,c1,c2⟩,cz⟩:=hGWk.box
        have hmI:(B.m:Int)≤12:=by omega
        clear hGWk hBk hgk hrl HGW
        by_cases hkB:k<B.m
        · have hkl:(k:Int)<(B.m:Int):=by omega
          go_wp2
          clear c0 c1 c2 cz
          go_loopw [10,2] (fun vi vf wi=>∃(i f:Nat) (B:Bs) (tvL tvP:Value) (LS PS:List Value),i≤k∧vi= .int .i64 (i:Int)∧vf= .int .i64 (f:Int)∧f≤60∧GW w w2.heap.size j o wi B tvL tvP LS PS∧wZ o j B∧k<B.m∧kQ o j f B (bA k+i)=G) (fun vi _ _=>k-(intOf vi).toNat)
          case atStart=>exact⟨0,f,B,_,_,_,_,Nat.zero_le _,rfl,rfl,hf60,HGWk.out,HBk.out,hkB,HGk.out⟩
          case round=>
            obtain⟨i,f',B',tvL',tvP',LS',PS',hik,rfl,rfl,hf60',hGWi,hBi,hkB',hgi⟩:=hrel
            have HGWi:=aA hGWi
            have HBi:=aA hBi
            have HGi:=aA hgi
            have m12':=(aU hBi.l).1
            obtain⟨la',lc',lad',lcp',rfl,_⟩:=hGWi.book.readL (by omega)
            obtain⟨pa',pc',pA',pC',pAD',pCP',rfl,_⟩:=hGWi.book.readP (by omega)
            obtain⟨⟨c0,c1,c2⟩,cz⟩:=hGWi.box
            obtain⟨⟨r0,r1,r2⟩,rz⟩:=hGWi.res
            have hne7:w2.heap.size≠w.heap.size:=by omega
            have hne8:w.heap.size≠w2.heap.size:=by omega
            have hwi:w2.heap.size<wr.heap.size:=hGWi.box.lt
            clear hGWi hBi hgi HGWk HBk HGk
            by_cases hlt:i<k
            · have hil:(i:Int)<(k:Int):=by omega
              have hjt:bA k+i<bA B'.m:=VR hkB' hlt
              rcases f' with _|f'
              · have HE:=aA (HGi.out.symm.trans (CS hjt))
                clear HGi hjt
                go_wp2
                refine cV (v:=.agg #[.slice la' B'.m lc',.slice pa' B'.m pc',.bool false]) (by simp[results,Tryz.results8,go_sem, *]) rfl ?_
                rw[HE.out]
                exact yJ HGWi.out false _ _ _
              · have hf1:(((f'+1:Nat):Int)==0)=false:=by simp;omega
                have hfw:IntKind.i64.wrap (((f'+1:Nat):Int)-1)=(f':Int):=by rw[IntKind.wrap_i64];omega
                obtain⟨E,hE⟩:∃E,eG o j B' i k=E:=⟨_,rfl⟩
                have HJT:=aA hjt
                have hcs:=UE (Y2 w.heap.size w2.heap.size) wr (fun b q=>by rcases q with q|q<;>omega) w.heap.size (.slice la' B'.m lc') (.slice pa' B'.m pc') false j (by omega) B' LS' PS' o HBi.out HGWi.out.book i k (by omega) hkB' (by omega)
                rw[hE]at hcs
                have HCS:=aA hcs
                have HE:=aA hE
                clear hcs hE hjt
                go_wp2_with fail
                refine HCS.out.mono ?_
                rintro e w9 hp
                clear c0 c1 c2 cz r0 r1 r2 rz
                rcases hp with⟨rfl,rfl,hb9⟩|⟨B2,tvL2,tvP2,LS2,PS2,rfl,rfl,hf9,hk9⟩
                · have HEG:=aA ((LF (f:=f') HJT.out hlt HE.out).symm.trans HGi.out)
                  have hb9':=aB hb9 (aC w9 (.cells #[.slice la' B'.m lc',.slice pa' B'.m pc',.bool false] 27))
                  have HGW9:=aA (HGWi.out.below hb9')
                  obtain⟨⟨c0,c1,c2⟩,cz⟩:=HGW9.out.box
                  obtain⟨⟨r0,r1,r2⟩,rz⟩:=HGW9.out.res
                  clear hb9 hb9'
                  go_wp2
                  refine cV (v:=.agg #[.slice la' B'.m lc',.slice pa' B'.m pc',.bool false]) (by simp[results,Tryz.results8,go_sem, *]) rfl ?_
                  rw[←HEG.out]
                  exact yJ HGW9.out false _ _ _
                · have HGN:=aA ((LG (f:=f') HJT.out hlt HE.out).symm.trans HGi.out)
                  have HST:=aA (HGWi.out.step hs2 hf9 hk9)
                  have m2:=(aU (rW HBi.out (by omega) hkB' HE.out).l).1
                  have hm2:=VL HE.out
                  obtain⟨la2,lc2,lad2,lcp2,rfl,_⟩:=hk9.readL (by omega)
                  obtain⟨pa2,pc2,pA2,pC2,pAD2,pCP2,rfl,_⟩:=hk9.readP (by omega)
                  obtain⟨⟨c0,c1,c2⟩,cz⟩:=HST.out.1.1
                  have hw9:w2.heap.size<w9.heap.size:=HST.out.1.1.lt
                  have HOK2:=aA (rW HBi.out (by omega) hkB' HE.out)
                  clear hf9 hk9
                  go_wp2
                  go_roundw
                  case rel=>exact⟨i+1,f',B2,_,_,_,_,by omega,by go_num,rfl,by omega,HST.out.2.below (aC _ _),HOK2.out,by omega,HGN.out⟩
                  case measure=>simp[intOf];omega
            · have hie:i=k:=by omega
              subst hie
              have hnl:¬(i:Int)<(i:Int):=by omega
              go_wp2
              go_roundw
              case rel=>exact⟨i+1,f',B',_,_,_,_,by omega,by omega,by go_num,rfl,hf60',HGWi.out,HBi.out,HGi.out⟩
              case measure=>simp[intOf];omega
        · have hkl:¬(k:Int)<(B.m:Int):=by omega
          have HE:=aA (HGk.out.symm.trans (yA (wR (by omega))))
          obtain⟨⟨r0,r1,r2⟩,rz⟩:=HGWk.out.res
          have hne7:w2.heap.size≠w.heap.size:=by omega
          have hne8:w.heap.size≠w2.heap.size:=by omega
          go_wp2
          refine cV (v:=.agg #[.slice la B.m lc,.slice pa B.m pc,.bool true]) (by simp[results,Tryz.results8,go_sem, *]) rfl ?_
          rw[HE.out]
          exact FW HGWk.out (by omega) _ _ _ _
theorem OO (w:World) (o:Int) (a:Option Addr) (n cap:Nat) (ad:Nat→Option Addr) (cp:Nat→Nat) (L:Nat→List T) (h:eH w a n cap ad (lN L) cp (fN L)) (fuel:Int):Calls Tryz.prog 8 #[.int .i64 o,.slice a n cap,.int .i64 fuel] w (xK w n (iA o n L fuel)):=by
 by_cases hc:(1≤o∧o≤3)∧aW n (lN L) (fN L)=true∧(1≤n∧n≤3)∧(0≤fuel∧fuel≤60)
 ·obtain⟨fu,rfl⟩:∃fu:Nat,fuel=(fu:Int):=⟨fuel.toNat,by omega⟩
  exact CQ w o a n cap ad cp L h fu hc.1 hc.2.1 hc.2.2.1 (by omega) (by unfold iA;rw[if_pos hc,Int.toNat_natCast])
 ·rw[tW hc];exact zN w o a n cap ad cp L h fuel hc
end Go.Proofs.YtelkehjdfcoeiaaGreat
