/-
  A basis is made: the model's GrbMake, where it is not empty.
-/
import Derived.Test.YtncffcaabnjioaaGreatMbm
set_option maxHeartbeats 16000000
set_option maxRecDepth 100000
namespace Go.Proofs.YtncffcaabnjioaaGreat
open Go.RowKit Go.Deep Go.Joins
set_option linter.unusedVariables false
set_option linter.unusedSimpArgs false
theorem CY (w : World) (o : Int) (a : Option Addr) (n cap : Nat) (ad : Nat → Option Addr) (cp : Nat → Nat) (L : Nat → List T) (h : fZ w a n cap ad (lN L) cp (fN L)) (fu : Nat) (ho : 1 ≤ o ∧ o ≤ 3) (hl : aW n (lN L) (fN L) = true) (hn : 1 ≤ n ∧ n ≤ 3) (hf : fu ≤ 60) {G : Bs × Bool} (hG : pW o n fu (OK n L) 0 = G) : Calls Tryz.prog 78 #[.int .i64 o, .slice a n cap, .int .i64 (fu : Int)] w (CC w n G) := by
  obtain⟨i0,hi0,hz0,hz1,hz2⟩:=info_parts AC
  obtain⟨i1,hi1,hy0,hy1,hy2⟩:=info_parts OO
  obtain⟨i2,hi2,hx0,hx1,hx2⟩:=info_parts yP
  obtain⟨o1,o2⟩:=ho
  have hn1:(1:Int)≤(n:Int):=by omega
  have hn3:(n:Int)≤3:=by omega
  have hf0:(0:Int)≤(fu:Int):=by omega
  have hf6:(fu:Int)≤60:=by omega
  rcases h.2.2.1 with h0|⟨lb,off,rfl,hlb,hcl⟩
  · omega
  have HH:=aA h
  have HC:=aA hcl
  have HL:=aA hl
  have HG:=aA hG
  have HBK0:=aA (IF ⟨o1,o2⟩ hl)
  have HX0:=aA (fJ.box w 103 (.slice none 0 0) (.slice none 0 0) (.bool false))
  have HLA:=aA (aT hl).2
  clear h hcl hG
  go_enter Tryz.func78,Tryz.ntmps78
  go_wp2_with (go_at_call 62;refine(bX _ _ _ _ (by omega) (by omega)).mono ?_;rintro r w' ⟨rfl,hw'⟩;obtain rfl:=hw'.symm;clear hw')
  refine(qS _ _ _ _ _ _ _ _ (HH.out.below (aC w (.cells #[.slice none 0 0,.slice none 0 0,.bool false] 103)))).mono ?_
  rw[hl]
  rintro r w2 ⟨rfl,hb2⟩
  have hs2:w.heap.size<w2.heap.size:=by have:=hb2.size;simp at this;omega
  have HG0:Hid (GW w w2.heap.size n o (w2.alloc (.cells #[.slice none 0 0,.slice none 0 0,.bool false] 103)) ⟨0,L,fun k=>nI k⟩ (.slice none 0 0) (.slice none 0 0) [] []):=⟨aB (aB (aC w (.cells #[.slice none 0 0,.slice none 0 0,.bool false] 103)) hb2) (aC w2 _),fJ.box w2 103 _ _ _,(HX0.out.below hb2).below (aC w2 _),oE.none _ _ _ _ _ _⟩
  clear hb2 hl
  go_wp2_with (go_at_call 62;refine(bX _ _ _ _ (by omega) (by omega)).mono ?_;rintro r w' ⟨rfl,hw'⟩;obtain rfl:=hw'.symm;clear hw')
  go_loopw [8] (fun v wr=>∃(j:Nat) (tvL tvP:Value) (LS PS:List Value),j≤n∧v= .int .i64 (j:Int)∧GW w w2.heap.size n o wr ⟨j,L,fun k=>nI k⟩ tvL tvP LS PS) (fun v _=>n-(intOf v).toNat)
  case atStart=>exact⟨0,_,_,_,_,gL _,rfl,HG0.out⟩
  case round=>
    obtain⟨j,tvL,tvP,LS,PS,hj,rfl,hGW⟩:=hrel
    have HGW:=aA hGW
    by_cases hlt:j<n
    · have hjl:(j:Int)<(n:Int):=by omega
      obtain⟨⟨c0,c1,c2⟩,cz⟩:=hGW.box
      have hb7:w2.heap.size<wr.heap.size:=hGW.box.lt
      have hwr:w.heap.size<wr.heap.size:=hGW.res.lt
      obtain⟨A,hA⟩:∃A,L j=A:=⟨_,rfl⟩
      have hS0:wr.cell? ⟨lb,off+j,none⟩=some (.slice (ad j) A.length (cp j)):=(hGW.bel.cell (p:=⟨lb,off+j,none⟩) hlb).trans (by rw[←hA];exact HC.out j hlt)
      have hrd:RL wr (ad j) (cp j) A:=by rw[←hA];exact(HH.out.2.2.2 j hlt).below hGW.bel
      have hA0:A.length≠0:=by rw[←hA];exact(HLA.out j hlt).1
      have hA4:A.length≤400:=by rw[←hA];exact(aE (HLA.out j hlt).2).1
      obtain⟨b2,off2,e2,hb2l,_⟩:=hrd.2.2.resolve_left hA0
      rw[e2]at hS0 hrd
      have hlw:lb<wr.heap.size:=cU wr _ hS0
      have bE:Below wr.heap.size wr (wr.alloc (.cells #[] 47)).drew:=(aC wr (.cells #[] 47)).drew
      have hown4:=dW (FW wr) (cE _ _).drew
      have HO4:=aA hown4
      have HNEWS:=aA (NH (hrd.below bE))
      have hone:=oN A
      have hlen:(aF A).length=A.length*5:=aU _
      have HIN:Hid (∀(g0 cap0:Nat) (w5:World),w5.ownsRow wr.heap.size 47 5 (.slice (some ⟨g0,0,none⟩) (0+A.length) cap0) (0+A.length) (aF []++aF A)→(wr.alloc (.cells #[] 47)).drew.grownBy w5 (Value.slice (some ⟨wr.heap.size,0,none⟩) 0 0).ownBlock→Below wr.heap.size wr w5∧lI wr.heap.size w5 (some ⟨g0,0,none⟩) cap0 (L j)):=fun g0 cap0 w5 h1 h2=>by
        have ho:=h1
        simp only[Nat.zero_add,show aF []++aF A=aF A from rfl]at ho
        obtain⟨a',c',e,hO⟩:=aH ho (by omega)
        obtain⟨e3,e4⟩:some ⟨g0,0,none⟩=a'∧cap0=c':=by simpa using e
        subst e3 e4
        refine⟨(bE).grown h2 (by simp) (fun k e=>by
          have:wr.heap.size=k:=by simpa[Value.ownBlock]using e
          omega),?_⟩
        rw[hA];exact hO
      have HB5:Hid (∀(w5:World),Below wr.heap.size wr w5→w5.cell? ⟨w2.heap.size,0,none⟩=some tvL∧w5.cell? ⟨lb,off+j,none⟩=some (.slice (some ⟨b2,off2,none⟩) A.length (cp j))∧(w5.alloc (.cells #[] 47)).heap.size=w5.heap.size+1):=fun w5 hb=>⟨(hb.cell (p:=⟨w2.heap.size,0,none⟩) hb7).trans c0,(hb.cell (p:=⟨lb,off+j,none⟩) hlw).trans hS0,by simp⟩
      have HA:=aA hA
      have hmax:j+1≤maxLen:=by unfold maxLen;omega
      have HS7:Hid (∀(g0 cap0 g1 cap1:Nat) (w5 w7:World),Below wr.heap.size wr w5→lI wr.heap.size w5 (some ⟨g0,0,none⟩) cap0 (L j)→w7.ownsRow w.heap.size 24 1 (.slice (some ⟨g1,0,none⟩) (j+1) cap1) (j+1) (LS++[.slice (some ⟨g0,0,none⟩) A.length cap0])→(w5.alloc (.cells #[.slice (some ⟨g0,0,none⟩) A.length cap0] 24)).grownBy w7 tvL.ownBlock→(tvL.ownBlock=some g1∨g1=(w5.alloc (.cells #[.slice (some ⟨g0,0,none⟩) A.length cap0] 24)).heap.size)→
          (fJ w7 w2.heap.size tvL tvP (.bool false)∧G7 w w2.heap.size n j (w7.setCell ⟨w2.heap.size,0,none⟩ (.slice (some ⟨g1,0,none⟩) (j+1) cap1)) L (.slice (some ⟨g1,0,none⟩) (j+1) cap1) tvP (LS++[.slice (some ⟨g0,0,none⟩) A.length cap0]) PS)∧(w7.cell? ⟨lb,off+j,none⟩=some (.slice (some ⟨b2,off2,none⟩) A.length (cp j))∧lb≠w2.heap.size)):=fun g0 cap0 g1 cap1 w5 w7 h1 h2 h3 h4 h5=>by
        have hlb7:lb<w.heap.size:=hlb
        have f7:Fr (fun k=>tvL.ownBlock=some k) w5 w7:=((Fr.refl _ w5).next (aC w5 _)).grown h4 (fun k e _=>e)
        have key:=fun k1 k2 k3=>HGW.out.app1 (g1:=g1) (cap1:=cap1) (w7:=w7) hs2 h1 h2 k1 k2 k3
        rw[HA.out]at key
        refine⟨key h3 h4 h5,(f7.cell (by have:=h1.size;omega) (fun q=>by have:=(HGW.out.book.rL.lt _ q).1;omega)).trans (HB5.out w5 h1).2.1,by omega⟩
      clear hA hrd hown4 e2 hGW c1 c2 hS0
      have hS:=(HB5.out wr.drew (cE _ _).drew).2.1
      have HBE:=aA bE
      clear bE
      go_wp2_with fail
      refine wp_region_held_drew (S:=fun u=>u.cell? ⟨lb,off+j,none⟩=some (.slice (some ⟨b2,off2,none⟩) A.length (cp j))) (by kernel_rfl) (hS) (fun hHeld=>?_)
      refine wpAnyH_take (i:=0) (v:=?_) rfl (by kernel_rfl) (by kernel_rfl) (by kernel_rfl) (fun _ _ _ h=>h) (Or.inl ⟨by rfl,?_⟩) (by assumption) ?_
      rotate_left
      · (intro w9 hSw;(try dsimp only at hSw);go_simp)<;>with_reducible rfl
      try simp only[Act.put,jT]
      refine wpAnyH_take (i:=3) (v:=?_) rfl (by kernel_rfl) (by kernel_rfl) (by kernel_rfl) (fun _ _ _ h=>h) (Or.inl ⟨by rfl,?_⟩) (by assumption) ?_
      rotate_left
      · (intro w9 hSw;(try dsimp only at hSw);go_simp)<;>with_reducible rfl
      try simp only[Act.put,jT]
      refine wpAnyH_take (i:=4) (v:=?_) rfl (by kernel_rfl) (by kernel_rfl) (by kernel_rfl) (fun _ _ _ h=>h) (Or.inl ⟨by rfl,?_⟩) (by assumption) ?_
      rotate_left
      · (intro w9 hSw;(try dsimp only at hSw);go_simp)<;>with_reducible rfl
      try simp only[Act.put,jT]
      refine wpAnyH_take (i:=5) (v:=?_) rfl (by kernel_rfl) (by kernel_rfl) (by kernel_rfl) (fun _ _ _ h=>h) (Or.inl ⟨by rfl,?_⟩) (by assumption) ?_
      rotate_left
      · (intro w9 hSw;(try dsimp only at hSw);go_simp)<;>with_reducible rfl
      try simp only[Act.put,jT]
      refine wpAnyH_take (i:=6) (v:=?_) rfl (by kernel_rfl) (by kernel_rfl) (by kernel_rfl) (fun _ _ _ h=>h) (Or.inl ⟨by rfl,?_⟩) (by assumption) ?_
      rotate_left
      · (intro w9 hSw;(try dsimp only at hSw);go_simp)<;>with_reducible rfl
      try simp only[Act.put,jT]
      refine wpAnyH_ready (rs:=[1,2]) (by kernel_rfl) (by simp) ?_
      refine AllReadyH.cons rfl (fun K hK=>?_) ?_
      rotate_left
      refine AllReadyH.cons rfl (fun K hK=>?_) AllReadyH.nil
      go_simp
      refine hK.out _ _ (by first|with_reducible exact gM h7S|with_reducible exact(HB5.out _ HBE.out).2.1|with_reducible exact(HB5.out _ HF1.out).2.1|with_reducible exact(HB5.out _ (aB HF1.out (aC w5 _))).2.1|with_reducible exact h7S.1|with_reducible exact hS) (fun hHeld2=>?_)
      clear hK K hHeld
      have hHeld:=hHeld2
      clear hHeld2
      try simp only[Act.put,jT]
      refine wpAnyH_ready (rs:=[1,7]) (by kernel_rfl) (by simp) ?_
      refine AllReadyH.cons rfl (fun K hK=>?_) ?_
      rotate_left
      refine AllReadyH.cons rfl (fun K hK=>?_) AllReadyH.nil
      (refine step_append_lies _ (by rfl) (.tmp 42) (.tmp 46) 24 (by rfl) wr.heap.size 47 i2 _ 5 40 Tryz.underlying24 hi2 hx0 hx1 hx2 rfl (by omega) _ 0 (aF []) (by rfl) HO4.out ⟨b2,off2,none⟩ A.length (cp j) (aF A) (by rfl) hlen HNEWS.out hone (by omega) (by unfold maxLen;omega) (by omega) (by simp) _ (by rfl) ?_;intro g0 cap0 w5 hown1 hgrow hat hlt1;obtain⟨f1,f2⟩:=HIN.out g0 cap0 w5 hown1 hgrow;have HF1:=aA f1;have HF2:=aA f2;have c5:=(HB5.out w5 f1).1;have c6:=(HB5.out _ (aB f1 (aC w5 (.cells #[.slice (some ⟨g0,0,none⟩) A.length cap0] 24)))).1;have hs5:wr.heap.size≤w5.heap.size:=f1.size;clear hown1 hgrow hat hlt1 f1 f2;simp only[Nat.zero_add])
      refine hK.out _ _ (by first|with_reducible exact gM h7S|with_reducible exact(HB5.out _ HBE.out).2.1|with_reducible exact(HB5.out _ HF1.out).2.1|with_reducible exact(HB5.out _ (aB HF1.out (aC w5 _))).2.1|with_reducible exact h7S.1|with_reducible exact hS) (fun hHeld2=>?_)
      clear hK K hHeld
      have hHeld:=hHeld2
      clear hHeld2
      try simp only[Act.put,jT]
      refine wpAnyH_ready (rs:=[1,8]) (by kernel_rfl) (by simp) ?_
      refine AllReadyH.cons rfl (fun K hK=>?_) ?_
      rotate_left
      refine AllReadyH.cons rfl (fun K hK=>?_) AllReadyH.nil
      go_simp
      refine hK.out _ _ (by first|with_reducible exact gM h7S|with_reducible exact(HB5.out _ HBE.out).2.1|with_reducible exact(HB5.out _ HF1.out).2.1|with_reducible exact(HB5.out _ (aB HF1.out (aC w5 _))).2.1|with_reducible exact h7S.1|with_reducible exact hS) (fun hHeld2=>?_)
      clear hK K hHeld
      have hHeld:=hHeld2
      clear hHeld2
      try simp only[Act.put,jT]
      refine wpAnyH_ready (rs:=[1]) (by kernel_rfl) (by simp) ?_
      refine AllReadyH.cons rfl (fun K hK=>?_) AllReadyH.nil
      go_simp
      refine hK.out _ _ (by first|with_reducible exact gM h7S|with_reducible exact(HB5.out _ HBE.out).2.1|with_reducible exact(HB5.out _ HF1.out).2.1|with_reducible exact(HB5.out _ (aB HF1.out (aC w5 _))).2.1|with_reducible exact h7S.1|with_reducible exact hS) (fun hHeld2=>?_)
      clear hK K hHeld
      have hHeld:=hHeld2
      clear hHeld2
      try simp only[Act.put,jT]
      refine wpAnyH_ready (rs:=[9]) (by kernel_rfl) (by simp) ?_
      refine AllReadyH.cons rfl (fun K hK=>?_) AllReadyH.nil
      (refine step_append_lies _ (by rfl) (.tmp 41) (.tmp 48) 23 (by rfl) w.heap.size 24 i0 _ 1 24 Tryz.underlying23 hi0 hz0 hz1 hz2 rfl (by omega) _ j LS (by rfl) ((HGW.out.below HF1.out).book.rL.alloc _) ⟨w5.heap.size,0,none⟩ 1 1 [.slice (some ⟨g0,0,none⟩) A.length cap0] (by rfl) (by rfl) (World.news_of_block (heap_alloc_new w5 _)) (jS _ _ _) (by omega) hmax (by omega) (by simp;omega) _ (by rfl) ?_;intro g1 cap1 w7 hown2 hgrow2 hat2 hlt2;have HP7:=aA (HS7.out g0 cap0 g1 cap1 w5 w7 HF1.out HF2.out hown2 hgrow2 hat2);obtain⟨⟨d0,d1,d2⟩,dz⟩:=HP7.out.1.1;have h7S:=HP7.out.2;clear hown2 hgrow2 hat2 hlt2 c5 c6 c0 cz)
      refine hK.out _ _ (by first|with_reducible exact gM h7S|with_reducible exact(HB5.out _ HBE.out).2.1|with_reducible exact(HB5.out _ HF1.out).2.1|with_reducible exact(HB5.out _ (aB HF1.out (aC w5 _))).2.1|with_reducible exact h7S.1|with_reducible exact hS) (fun hHeld2=>?_)
      clear hK K hHeld
      have hHeld:=hHeld2
      clear hHeld2
      try simp only[Act.put,jT]
      refine wpAnyH_take (i:=10) (v:=?_) rfl (by kernel_rfl) (by kernel_rfl) (by kernel_rfl) (fun _ _ _ h=>h) (Or.inl ⟨by rfl,?_⟩) (by assumption) ?_
      rotate_left
      · (intro w9 hSw;(try dsimp only at hSw);go_simp)<;>with_reducible rfl
      try simp only[Act.put,jT]
      refine wpAnyH_ready (rs:=[11]) (by kernel_rfl) (by simp) ?_
      refine AllReadyH.cons rfl (fun K hK=>?_) AllReadyH.nil
      go_simp
      refine hK.out _ _ (by first|with_reducible exact gM h7S|with_reducible exact(HB5.out _ HBE.out).2.1|with_reducible exact(HB5.out _ HF1.out).2.1|with_reducible exact(HB5.out _ (aB HF1.out (aC w5 _))).2.1|with_reducible exact h7S.1|with_reducible exact hS) (fun hHeld2=>?_)
      clear hK K hHeld
      have hHeld:=hHeld2
      clear hHeld2
      try simp only[Act.put,jT]
      refine wpAnyH_done (by kernel_rfl) ?_ _
      rotate_left
      go_simp
      refine hK.out _ _ (by first|with_reducible exact gM h7S|with_reducible exact(HB5.out _ HBE.out).2.1|with_reducible exact(HB5.out _ HF1.out).2.1|with_reducible exact(HB5.out _ (aB HF1.out (aC w5 _))).2.1|with_reducible exact h7S.1|with_reducible exact hS) (fun hHeld2=>?_)
      clear hK K hHeld
      have hHeld:=hHeld2
      clear hHeld2
      try simp only[Act.put,jT]
      refine wpAnyH_ready (rs:=[2]) (by kernel_rfl) (by simp) ?_
      refine AllReadyH.cons rfl (fun K hK=>?_) AllReadyH.nil
      go_simp
      refine hK.out _ _ (by first|with_reducible exact gM h7S|with_reducible exact(HB5.out _ HBE.out).2.1|with_reducible exact(HB5.out _ HF1.out).2.1|with_reducible exact(HB5.out _ (aB HF1.out (aC w5 _))).2.1|with_reducible exact h7S.1|with_reducible exact hS) (fun hHeld2=>?_)
      clear hK K hHeld
      have hHeld:=hHeld2
      clear hHeld2
      try simp only[Act.put,jT]
      refine wpAnyH_ready (rs:=[7]) (by kernel_rfl) (by simp) ?_
      refine AllReadyH.cons rfl (fun K hK=>?_) AllReadyH.nil
      (refine step_append_lies _ (by rfl) (.tmp 42) (.tmp 46) 24 (by rfl) wr.heap.size 47 i2 _ 5 40 Tryz.underlying24 hi2 hx0 hx1 hx2 rfl (by omega) _ 0 (aF []) (by rfl) HO4.out ⟨b2,off2,none⟩ A.length (cp j) (aF A) (by rfl) hlen HNEWS.out hone (by omega) (by unfold maxLen;omega) (by omega) (by simp) _ (by rfl) ?_;intro g0 cap0 w5 hown1 hgrow hat hlt1;obtain⟨f1,f2⟩:=HIN.out g0 cap0 w5 hown1 hgrow;have HF1:=aA f1;have HF2:=aA f2;have c5:=(HB5.out w5 f1).1;have c6:=(HB5.out _ (aB f1 (aC w5 (.cells #[.slice (some ⟨g0,0,none⟩) A.length cap0] 24)))).1;have hs5:wr.heap.size≤w5.heap.size:=f1.size;clear hown1 hgrow hat hlt1 f1 f2;simp only[Nat.zero_add])
      refine hK.out _ _ (by first|with_reducible exact gM h7S|with_reducible exact(HB5.out _ HBE.out).2.1|with_reducible exact(HB5.out _ HF1.out).2.1|with_reducible exact(HB5.out _ (aB HF1.out (aC w5 _))).2.1|with_reducible exact h7S.1|with_reducible exact hS) (fun hHeld2=>?_)
      clear hK K hHeld
      have hHeld:=hHeld2
      clear hHeld2
      try simp only[Act.put,jT]
      refine wpAnyH_ready (rs:=[8]) (by kernel_rfl) (by simp) ?_
      refine AllReadyH.cons rfl (fun K hK=>?_) AllReadyH.nil
      go_simp
      refine hK.out _ _ (by first|with_reducible exact gM h7S|with_reducible exact(HB5.out _ HBE.out).2.1|with_reducible exact(HB5.out _ HF1.out).2.1|with_reducible exact(HB5.out _ (aB HF1.out (aC w5 _))).2.1|with_reducible exact h7S.1|with_reducible exact hS) (fun hHeld2=>?_)
      clear hK K hHeld
      have hHeld:=hHeld2
      clear hHeld2
      try simp only[Act.put,jT]
      refine wpAnyH_ready (rs:=[9]) (by kernel_rfl) (by simp) ?_
      refine AllReadyH.cons rfl (fun K hK=>?_) AllReadyH.nil
      (refine step_append_lies _ (by rfl) (.tmp 41) (.tmp 48) 23 (by rfl) w.heap.size 24 i0 _ 1 24 Tryz.underlying23 hi0 hz0 hz1 hz2 rfl (by omega) _ j LS (by rfl) ((HGW.out.below HF1.out).book.rL.alloc _) ⟨w5.heap.size,0,none⟩ 1 1 [.slice (some ⟨g0,0,none⟩) A.length cap0] (by rfl) (by rfl) (World.news_of_block (heap_alloc_new w5 _)) (jS _ _ _) (by omega) hmax (by omega) (by simp;omega) _ (by rfl) ?_;intro g1 cap1 w7 hown2 hgrow2 hat2 hlt2;have HP7:=aA (HS7.out g0 cap0 g1 cap1 w5 w7 HF1.out HF2.out hown2 hgrow2 hat2);obtain⟨⟨d0,d1,d2⟩,dz⟩:=HP7.out.1.1;have h7S:=HP7.out.2;clear hown2 hgrow2 hat2 hlt2 c5 c6 c0 cz)
      refine hK.out _ _ (by first|with_reducible exact gM h7S|with_reducible exact(HB5.out _ HBE.out).2.1|with_reducible exact(HB5.out _ HF1.out).2.1|with_reducible exact(HB5.out _ (aB HF1.out (aC w5 _))).2.1|with_reducible exact h7S.1|with_reducible exact hS) (fun hHeld2=>?_)
      clear hK K hHeld
      have hHeld:=hHeld2
      clear hHeld2
      try simp only[Act.put,jT]
      refine wpAnyH_take (i:=10) (v:=?_) rfl (by kernel_rfl) (by kernel_rfl) (by kernel_rfl) (fun _ _ _ h=>h) (Or.inl ⟨by rfl,?_⟩) (by assumption) ?_
      rotate_left
      · (intro w9 hSw;(try dsimp only at hSw);go_simp)<;>with_reducible rfl
      try simp only[Act.put,jT]
      refine wpAnyH_ready (rs:=[11]) (by kernel_rfl) (by simp) ?_
      refine AllReadyH.cons rfl (fun K hK=>?_) AllReadyH.nil
      go_simp
      refine hK.out _ _ (by first|with_reducible exact gM h7S|with_reducible exact(HB5.out _ HBE.out).2.1|with_reducible exact(HB5.out _ HF1.out).2.1|with_reducible exact(HB5.out _ (aB HF1.out (aC w5 _))).2.1|with_reducible exact h7S.1|with_reducible exact hS) (fun hHeld2=>?_)
      clear hK K hHeld
      have hHeld:=hHeld2
      clear hHeld2
      try simp only[Act.put,jT]
      refine wpAnyH_done (by kernel_rfl) ?_ _
      rotate_left
      go_simp
      refine hK.out _ _ (by first|with_reducible exact gM h7S|with_reducible exact(HB5.out _ HBE.out).2.1|with_reducible exact(HB5.out _ HF1.out).2.1|with_reducible exact(HB5.out _ (aB HF1.out (aC w5 _))).2.1|with_reducible exact h7S.1|with_reducible exact hS) (fun hHeld2=>?_)
      clear hK K hHeld
      have hHeld:=hHeld2
      clear hHeld2
      try simp only[Act.put,jT]
      refine wpAnyH_ready (rs:=[7]) (by kernel_rfl) (by simp) ?_
      refine AllReadyH.cons rfl (fun K hK=>?_) AllReadyH.nil
      (refine step_append_lies _ (by rfl) (.tmp 42) (.tmp 46) 24 (by rfl) wr.heap.size 47 i2 _ 5 40 Tryz.underlying24 hi2 hx0 hx1 hx2 rfl (by omega) _ 0 (aF []) (by rfl) HO4.out ⟨b2,off2,none⟩ A.length (cp j) (aF A) (by rfl) hlen HNEWS.out hone (by omega) (by unfold maxLen;omega) (by omega) (by simp) _ (by rfl) ?_;intro g0 cap0 w5 hown1 hgrow hat hlt1;obtain⟨f1,f2⟩:=HIN.out g0 cap0 w5 hown1 hgrow;have HF1:=aA f1;have HF2:=aA f2;have c5:=(HB5.out w5 f1).1;have c6:=(HB5.out _ (aB f1 (aC w5 (.cells #[.slice (some ⟨g0,0,none⟩) A.length cap0] 24)))).1;have hs5:wr.heap.size≤w5.heap.size:=f1.size;clear hown1 hgrow hat hlt1 f1 f2;simp only[Nat.zero_add])
      refine hK.out _ _ (by first|with_reducible exact gM h7S|with_reducible exact(HB5.out _ HBE.out).2.1|with_reducible exact(HB5.out _ HF1.out).2.1|with_reducible exact(HB5.out _ (aB HF1.out (aC w5 _))).2.1|with_reducible exact h7S.1|with_reducible exact hS) (fun hHeld2=>?_)
      clear hK K hHeld
      have hHeld:=hHeld2
      clear hHeld2
      try simp only[Act.put,jT]
      refine wpAnyH_ready (rs:=[8]) (by kernel_rfl) (by simp) ?_
      refine AllReadyH.cons rfl (fun K hK=>?_) AllReadyH.nil
      go_simp
      refine hK.out _ _ (by first|with_reducible exact gM h7S|with_reducible exact(HB5.out _ HBE.out).2.1|with_reducible exact(HB5.out _ HF1.out).2.1|with_reducible exact(HB5.out _ (aB HF1.out (aC w5 _))).2.1|with_reducible exact h7S.1|with_reducible exact hS) (fun hHeld2=>?_)
      clear hK K hHeld
      have hHeld:=hHeld2
      clear hHeld2
      try simp only[Act.put,jT]
      refine wpAnyH_ready (rs:=[9]) (by kernel_rfl) (by simp) ?_
      refine AllReadyH.cons rfl (fun K hK=>?_) AllReadyH.nil
      (refine step_append_lies _ (by rfl) (.tmp 41) (.tmp 48) 23 (by rfl) w.heap.size 24 i0 _ 1 24 Tryz.underlying23 hi0 hz0 hz1 hz2 rfl (by omega) _ j LS (by rfl) ((HGW.out.below HF1.out).book.rL.alloc _) ⟨w5.heap.size,0,none⟩ 1 1 [.slice (some ⟨g0,0,none⟩) A.length cap0] (by rfl) (by rfl) (World.news_of_block (heap_alloc_new w5 _)) (jS _ _ _) (by omega) hmax (by omega) (by simp;omega) _ (by rfl) ?_;intro g1 cap1 w7 hown2 hgrow2 hat2 hlt2;have HP7:=aA (HS7.out g0 cap0 g1 cap1 w5 w7 HF1.out HF2.out hown2 hgrow2 hat2);obtain⟨⟨d0,d1,d2⟩,dz⟩:=HP7.out.1.1;have h7S:=HP7.out.2;clear hown2 hgrow2 hat2 hlt2 c5 c6 c0 cz)
      refine hK.out _ _ (by first|with_reducible exact gM h7S|with_reducible exact(HB5.out _ HBE.out).2.1|with_reducible exact(HB5.out _ HF1.out).2.1|with_reducible exact(HB5.out _ (aB HF1.out (aC w5 _))).2.1|with_reducible exact h7S.1|with_reducible exact hS) (fun hHeld2=>?_)
      clear hK K hHeld
      have hHeld:=hHeld2
      clear hHeld2
      try simp only[Act.put,jT]
      refine wpAnyH_take (i:=10) (v:=?_) rfl (by kernel_rfl) (by kernel_rfl) (by kernel_rfl) (fun _ _ _ h=>h) (Or.inl ⟨by rfl,?_⟩) (by assumption) ?_
      rotate_left
      · (intro w9 hSw;(try dsimp only at hSw);go_simp)<;>with_reducible rfl
      try simp only[Act.put,jT]
      refine wpAnyH_ready (rs:=[11]) (by kernel_rfl) (by simp) ?_
      refine AllReadyH.cons rfl (fun K hK=>?_) AllReadyH.nil
      go_simp
      refine hK.out _ _ (by first|with_reducible exact gM h7S|with_reducible exact(HB5.out _ HBE.out).2.1|with_reducible exact(HB5.out _ HF1.out).2.1|with_reducible exact(HB5.out _ (aB HF1.out (aC w5 _))).2.1|with_reducible exact h7S.1|with_reducible exact hS) (fun hHeld2=>?_)
      clear hK K hHeld
      have hHeld:=hHeld2
      clear hHeld2
      try simp only[Act.put,jT]
      refine wpAnyH_done (by kernel_rfl) ?_ _
      rotate_left
      go_simp
      refine hK.out _ _ (by first|with_reducible exact gM h7S|with_reducible exact(HB5.out _ HBE.out).2.1|with_reducible exact(HB5.out _ HF1.out).2.1|with_reducible exact(HB5.out _ (aB HF1.out (aC w5 _))).2.1|with_reducible exact h7S.1|with_reducible exact hS) (fun hHeld2=>?_)
      clear hK K hHeld
      have hHeld:=hHeld2
      clear hHeld2
      try simp only[Act.put,jT]
      refine wpAnyH_ready (rs:=[8]) (by kernel_rfl) (by simp) ?_
      refine AllReadyH.cons rfl (fun K hK=>?_) AllReadyH.nil
      go_simp
      refine hK.out _ _ (by first|with_reducible exact gM h7S|with_reducible exact(HB5.out _ HBE.out).2.1|with_reducible exact(HB5.out _ HF1.out).2.1|with_reducible exact(HB5.out _ (aB HF1.out (aC w5 _))).2.1|with_reducible exact h7S.1|with_reducible exact hS) (fun hHeld2=>?_)
      clear hK K hHeld
      have hHeld:=hHeld2
      clear hHeld2
      try simp only[Act.put,jT]
      refine wpAnyH_ready (rs:=[9]) (by kernel_rfl) (by simp) ?_
      refine AllReadyH.cons rfl (fun K hK=>?_) AllReadyH.nil
      (refine step_append_lies _ (by rfl) (.tmp 41) (.tmp 48) 23 (by rfl) w.heap.size 24 i0 _ 1 24 Tryz.underlying23 hi0 hz0 hz1 hz2 rfl (by omega) _ j LS (by rfl) ((HGW.out.below HF1.out).book.rL.alloc _) ⟨w5.heap.size,0,none⟩ 1 1 [.slice (some ⟨g0,0,none⟩) A.length cap0] (by rfl) (by rfl) (World.news_of_block (heap_alloc_new w5 _)) (jS _ _ _) (by omega) hmax (by omega) (by simp;omega) _ (by rfl) ?_;intro g1 cap1 w7 hown2 hgrow2 hat2 hlt2;have HP7:=aA (HS7.out g0 cap0 g1 cap1 w5 w7 HF1.out HF2.out hown2 hgrow2 hat2);obtain⟨⟨d0,d1,d2⟩,dz⟩:=HP7.out.1.1;have h7S:=HP7.out.2;clear hown2 hgrow2 hat2 hlt2 c5 c6 c0 cz)
      refine hK.out _ _ (by first|with_reducible exact gM h7S|with_reducible exact(HB5.out _ HBE.out).2.1|with_reducible exact(HB5.out _ HF1.out).2.1|with_reducible exact(HB5.out _ (aB HF1.out (aC w5 _))).2.1|with_reducible exact h7S.1|with_reducible exact hS) (fun hHeld2=>?_)
      clear hK K hHeld
      have hHeld:=hHeld2
      clear hHeld2
      try simp only[Act.put,jT]
      refine wpAnyH_take (i:=10) (v:=?_) rfl (by kernel_rfl) (by kernel_rfl) (by kernel_rfl) (fun _ _ _ h=>h) (Or.inl ⟨by rfl,?_⟩) (by assumption) ?_
      rotate_left
      · (intro w9 hSw;(try dsimp only at hSw);go_simp)<;>with_reducible rfl
      try simp only[Act.put,jT]
      refine wpAnyH_ready (rs:=[11]) (by kernel_rfl) (by simp) ?_
      refine AllReadyH.cons rfl (fun K hK=>?_) AllReadyH.nil
      go_simp
      refine hK.out _ _ (by first|with_reducible exact gM h7S|with_reducible exact(HB5.out _ HBE.out).2.1|with_reducible exact(HB5.out _ HF1.out).2.1|with_reducible exact(HB5.out _ (aB HF1.out (aC w5 _))).2.1|with_reducible exact h7S.1|with_reducible exact hS) (fun hHeld2=>?_)
      clear hK K hHeld
      have hHeld:=hHeld2
      clear hHeld2
      try simp only[Act.put,jT]
      refine wpAnyH_done (by kernel_rfl) ?_ _
      rotate_left
      all_goals(
        have HG7:=aA HP7.out.1.2
        have hmax3:j+1≤maxLen:=hmax
        clear HP7 d0 d1 d2 dz h7S HS7 HF1 HF2 HO4 HNEWS HIN HB5 HBE hS hone hlen hs5 HG0
        generalize(w7.setCell ⟨w2.heap.size,0,none⟩ (.slice (some ⟨g1,0,none⟩) (j+1) cap1))=W7 at HG7⊢
        obtain⟨⟨e0,e1,e2⟩,ez⟩:=HG7.out.box
        have hb77:w2.heap.size<W7.heap.size:=HG7.out.box.lt
        have hw7:w.heap.size<W7.heap.size:=HG7.out.res.lt
        have HE1:=aA e1
        clear e0 e2
        go_wp2_with fail
        refine wp_region_held_drew (S:=fun _=>True) (by kernel_rfl) (trivial) (fun hHeld=>?_)
        refine wpAnyH_take (i:=0) (v:=?_) rfl (by kernel_rfl) (by kernel_rfl) (by kernel_rfl) (fun _ _ _ h=>h) (Or.inl ⟨by rfl,?_⟩) (by assumption) ?_
        rotate_left
        · (intro w9 hSw;(try dsimp only at hSw);go_simp)<;>with_reducible rfl
        try simp only[Act.put,jT]
        refine wpAnyH_take (i:=2) (v:=?_) rfl (by kernel_rfl) (by kernel_rfl) (by kernel_rfl) (fun _ _ _ h=>h) (Or.inl ⟨by rfl,?_⟩) (by assumption) ?_
        rotate_left
        · (intro w9 hSw;(try dsimp only at hSw);go_simp)<;>with_reducible rfl
        try simp only[Act.put,jT]
        refine wpAnyH_take (i:=3) (v:=?_) rfl (by kernel_rfl) (by kernel_rfl) (by kernel_rfl) (fun _ _ _ h=>h) (Or.inl ⟨by rfl,?_⟩) (by assumption) ?_
        rotate_left
        · (intro w9 hSw;(try dsimp only at hSw);go_simp)<;>with_reducible rfl
        try simp only[Act.put,jT]
        refine wpAnyH_take (i:=4) (v:=?_) rfl (by kernel_rfl) (by kernel_rfl) (by kernel_rfl) (fun _ _ _ h=>h) (Or.inl ⟨by rfl,?_⟩) (by assumption) ?_
        rotate_left
        · (intro w9 hSw;(try dsimp only at hSw);go_simp)<;>with_reducible rfl
        try simp only[Act.put,jT]
        refine wpAnyH_ready (rs:=[1,5]) (by kernel_rfl) (by simp) ?_
        refine AllReadyH.cons rfl (fun K hK=>?_) ?_
        rotate_left
        refine AllReadyH.cons rfl (fun K hK=>?_) AllReadyH.nil
        go_simp
        go_wp2_with (go_at_call 124;refine(FI _ n (j:Int) (by omega)).mono ?_;rw[zF];rintro e w8 ⟨ra,rc,rad,rcp,rRb,rB,rfl,b8,ho8⟩;have b8':Below W7.heap.size W7 w8:=aB (cE _ _).drew b8;have HB8:=aA b8';have HO8:=aA ho8;have d1:w8.cell? ⟨w2.heap.size,1,none⟩=some tvP:=(b8'.cell (p:=⟨w2.heap.size,1,none⟩) hb77).trans HE1.out;have d2:(w8.alloc (.cells #[.slice ra n rc] 23)).cell? ⟨w2.heap.size,1,none⟩=some tvP:=((aB b8' (aC w8 (.cells #[.slice ra n rc] 23))).cell (p:=⟨w2.heap.size,1,none⟩) hb77).trans HE1.out;have hs8:W7.heap.size≤w8.heap.size:=b8'.size;clear b8 b8' ho8)
        refine hK.out _ _ (by trivial) (fun hHeld2=>?_)
        clear hK K hHeld
        have hHeld:=hHeld2
        clear hHeld2
        try simp only[Act.put,jT]
        refine wpAnyH_ready (rs:=[1,6]) (by kernel_rfl) (by simp) ?_
        refine AllReadyH.cons rfl (fun K hK=>?_) ?_
        rotate_left
        refine AllReadyH.cons rfl (fun K hK=>?_) AllReadyH.nil
        go_simp
        refine hK.out _ _ (by trivial) (fun hHeld2=>?_)
        clear hK K hHeld
        have hHeld:=hHeld2
        clear hHeld2
        try simp only[Act.put,jT]
        refine wpAnyH_ready (rs:=[1]) (by kernel_rfl) (by simp) ?_
        refine AllReadyH.cons rfl (fun K hK=>?_) AllReadyH.nil
        go_simp
        refine hK.out _ _ (by trivial) (fun hHeld2=>?_)
        clear hK K hHeld
        have hHeld:=hHeld2
        clear hHeld2
        try simp only[Act.put,jT]
        refine wpAnyH_ready (rs:=[7]) (by kernel_rfl) (by simp) ?_
        refine AllReadyH.cons rfl (fun K hK=>?_) AllReadyH.nil
        (refine step_append_lies _ (by rfl) (.tmp 52) (.tmp 57) 101 (by rfl) w.heap.size 23 i1 _ 1 24 Tryz.underlying101 hi1 hy0 hy1 hy2 rfl (by omega) _ j PS (by rfl) ((HG7.out.below HB8.out).book.rP.alloc _) ⟨w8.heap.size,0,none⟩ 1 1 [.slice ra n rc] (by rfl) (by rfl) (World.news_of_block (heap_alloc_new w8 _)) (jS _ _ _) (by omega) hmax3 (by omega) (by simp;omega) _ (by rfl) ?_;intro g2 cap2 w10 hown3 hgrow3 hat3 hlt3;have HP9:=aA (HG7.out.app2 (o:=o) hs2 HB8.out (by simp) HO8.out hown3 hgrow3 hat3);obtain⟨⟨f0,f1,f2⟩,fz⟩:=HP9.out.1;clear hown3 hgrow3 hat3 hlt3 d1 d2 e1 ez)
        refine hK.out _ _ (by trivial) (fun hHeld2=>?_)
        clear hK K hHeld
        have hHeld:=hHeld2
        clear hHeld2
        try simp only[Act.put,jT]
        refine wpAnyH_take (i:=8) (v:=?_) rfl (by kernel_rfl) (by kernel_rfl) (by kernel_rfl) (fun _ _ _ h=>h) (Or.inl ⟨by rfl,?_⟩) (by assumption) ?_
        rotate_left
        · (intro w9 hSw;(try dsimp only at hSw);go_simp)<;>with_reducible rfl
        try simp only[Act.put,jT]
        refine wpAnyH_ready (rs:=[9]) (by kernel_rfl) (by simp) ?_
        refine AllReadyH.cons rfl (fun K hK=>?_) AllReadyH.nil
        go_simp
        refine hK.out _ _ (by trivial) (fun hHeld2=>?_)
        clear hK K hHeld
        have hHeld:=hHeld2
        clear hHeld2
        try simp only[Act.put,jT]
        refine wpAnyH_done (by kernel_rfl) ?_ _
        rotate_left
        go_simp
        refine hK.out _ _ (by trivial) (fun hHeld2=>?_)
        clear hK K hHeld
        have hHeld:=hHeld2
        clear hHeld2
        try simp only[Act.put,jT]
        refine wpAnyH_ready (rs:=[5]) (by kernel_rfl) (by simp) ?_
        refine AllReadyH.cons rfl (fun K hK=>?_) AllReadyH.nil
        go_simp
        go_wp2_with (go_at_call 124;refine(FI _ n (j:Int) (by omega)).mono ?_;rw[zF];rintro e w8 ⟨ra,rc,rad,rcp,rRb,rB,rfl,b8,ho8⟩;have b8':Below W7.heap.size W7 w8:=aB (cE _ _).drew b8;have HB8:=aA b8';have HO8:=aA ho8;have d1:w8.cell? ⟨w2.heap.size,1,none⟩=some tvP:=(b8'.cell (p:=⟨w2.heap.size,1,none⟩) hb77).trans HE1.out;have d2:(w8.alloc (.cells #[.slice ra n rc] 23)).cell? ⟨w2.heap.size,1,none⟩=some tvP:=((aB b8' (aC w8 (.cells #[.slice ra n rc] 23))).cell (p:=⟨w2.heap.size,1,none⟩) hb77).trans HE1.out;have hs8:W7.heap.size≤w8.heap.size:=b8'.size;clear b8 b8' ho8)
        refine hK.out _ _ (by trivial) (fun hHeld2=>?_)
        clear hK K hHeld
        have hHeld:=hHeld2
        clear hHeld2
        try simp only[Act.put,jT]
        refine wpAnyH_ready (rs:=[6]) (by kernel_rfl) (by simp) ?_
        refine AllReadyH.cons rfl (fun K hK=>?_) AllReadyH.nil
        go_simp
        refine hK.out _ _ (by trivial) (fun hHeld2=>?_)
        clear hK K hHeld
        have hHeld:=hHeld2
        clear hHeld2
        try simp only[Act.put,jT]
        refine wpAnyH_ready (rs:=[7]) (by kernel_rfl) (by simp) ?_
        refine AllReadyH.cons rfl (fun K hK=>?_) AllReadyH.nil
        (refine step_append_lies _ (by rfl) (.tmp 52) (.tmp 57) 101 (by rfl) w.heap.size 23 i1 _ 1 24 Tryz.underlying101 hi1 hy0 hy1 hy2 rfl (by omega) _ j PS (by rfl) ((HG7.out.below HB8.out).book.rP.alloc _) ⟨w8.heap.size,0,none⟩ 1 1 [.slice ra n rc] (by rfl) (by rfl) (World.news_of_block (heap_alloc_new w8 _)) (jS _ _ _) (by omega) hmax3 (by omega) (by simp;omega) _ (by rfl) ?_;intro g2 cap2 w10 hown3 hgrow3 hat3 hlt3;have HP9:=aA (HG7.out.app2 (o:=o) hs2 HB8.out (by simp) HO8.out hown3 hgrow3 hat3);obtain⟨⟨f0,f1,f2⟩,fz⟩:=HP9.out.1;clear hown3 hgrow3 hat3 hlt3 d1 d2 e1 ez)
        refine hK.out _ _ (by trivial) (fun hHeld2=>?_)
        clear hK K hHeld
        have hHeld:=hHeld2
        clear hHeld2
        try simp only[Act.put,jT]
        refine wpAnyH_take (i:=8) (v:=?_) rfl (by kernel_rfl) (by kernel_rfl) (by kernel_rfl) (fun _ _ _ h=>h) (Or.inl ⟨by rfl,?_⟩) (by assumption) ?_
        rotate_left
        · (intro w9 hSw;(try dsimp only at hSw);go_simp)<;>with_reducible rfl
        try simp only[Act.put,jT]
        refine wpAnyH_ready (rs:=[9]) (by kernel_rfl) (by simp) ?_
        refine AllReadyH.cons rfl (fun K hK=>?_) AllReadyH.nil
        go_simp
        refine hK.out _ _ (by trivial) (fun hHeld2=>?_)
        clear hK K hHeld
        have hHeld:=hHeld2
        clear hHeld2
        try simp only[Act.put,jT]
        refine wpAnyH_done (by kernel_rfl) ?_ _
        rotate_left
        go_simp
        refine hK.out _ _ (by trivial) (fun hHeld2=>?_)
        clear hK K hHeld
        have hHeld:=hHeld2
        clear hHeld2
        try simp only[Act.put,jT]
        refine wpAnyH_ready (rs:=[6]) (by kernel_rfl) (by simp) ?_
        refine AllReadyH.cons rfl (fun K hK=>?_) AllReadyH.nil
        go_simp
        refine hK.out _ _ (by trivial) (fun hHeld2=>?_)
        clear hK K hHeld
        have hHeld:=hHeld2
        clear hHeld2
        try simp only[Act.put,jT]
        refine wpAnyH_ready (rs:=[7]) (by kernel_rfl) (by simp) ?_
        refine AllReadyH.cons rfl (fun K hK=>?_) AllReadyH.nil
        (refine step_append_lies _ (by rfl) (.tmp 52) (.tmp 57) 101 (by rfl) w.heap.size 23 i1 _ 1 24 Tryz.underlying101 hi1 hy0 hy1 hy2 rfl (by omega) _ j PS (by rfl) ((HG7.out.below HB8.out).book.rP.alloc _) ⟨w8.heap.size,0,none⟩ 1 1 [.slice ra n rc] (by rfl) (by rfl) (World.news_of_block (heap_alloc_new w8 _)) (jS _ _ _) (by omega) hmax3 (by omega) (by simp;omega) _ (by rfl) ?_;intro g2 cap2 w10 hown3 hgrow3 hat3 hlt3;have HP9:=aA (HG7.out.app2 (o:=o) hs2 HB8.out (by simp) HO8.out hown3 hgrow3 hat3);obtain⟨⟨f0,f1,f2⟩,fz⟩:=HP9.out.1;clear hown3 hgrow3 hat3 hlt3 d1 d2 e1 ez)
        refine hK.out _ _ (by trivial) (fun hHeld2=>?_)
        clear hK K hHeld
        have hHeld:=hHeld2
        clear hHeld2
        try simp only[Act.put,jT]
        refine wpAnyH_take (i:=8) (v:=?_) rfl (by kernel_rfl) (by kernel_rfl) (by kernel_rfl) (fun _ _ _ h=>h) (Or.inl ⟨by rfl,?_⟩) (by assumption) ?_
        rotate_left
        · (intro w9 hSw;(try dsimp only at hSw);go_simp)<;>with_reducible rfl
        try simp only[Act.put,jT]
        refine wpAnyH_ready (rs:=[9]) (by kernel_rfl) (by simp) ?_
        refine AllReadyH.cons rfl (fun K hK=>?_) AllReadyH.nil
        go_simp
        refine hK.out _ _ (by trivial) (fun hHeld2=>?_)
        clear hK K hHeld
        have hHeld:=hHeld2
        clear hHeld2
        try simp only[Act.put,jT]
        refine wpAnyH_done (by kernel_rfl) ?_ _
        rotate_left
        all_goals(
          go_wp2
          go_roundw
          case rel=>exact⟨j+1,_,_,_,_,by omega,by go_num,HP9.out.2⟩
          case measure=>simp[intOf];omega))
    · have hjn:¬(j:Int)<(n:Int):=by omega
      have hje:j=n:=by omega
      subst hje
      clear HG0 HX0 HC HLA hGW
      go_wp2
      go_loopw [9,2] (fun vk vf wk=>∃(k f:Nat) (B:Bs) (tvL tvP:Value) (LS PS:List Value),1≤k∧k≤12∧vk= .int .i64 (k:Int)∧vf= .int .i64 (f:Int)∧f≤60∧GW w w2.heap.size j o wk B tvL tvP LS PS∧ET o j B∧pW o j f B (cZ k)=G) (fun vk _ _=>13-(intOf vk).toNat)
      case atStart=>exact⟨1,fu,OK j L,_,_,_,_,Nat.le_refl _,by omega,rfl,rfl,hf,HGW.out,HBK0.out,HG.out⟩
      case round=>
        obtain⟨k,f,B,tvL,tvP,LS,PS,hk1,hk12,rfl,rfl,hf60,hGWk,hBk,hgk⟩:=hrel
        have HGWk:=aA hGWk
        have HBk:=aA hBk
        have HGk:=aA hgk
        have m12:=(aT hBk.l).1
        obtain⟨la,lc,lad,lcp,rfl,hrl⟩:=hGWk.book.readL (by omega)
        obtain⟨pa,pc,pA,pC,pAD,pCP,rfl,_⟩:=hGWk.book.readP (by omega)
        obtain⟨⟨c0,c1,c2⟩,cz⟩:=hGWk.box
        have hmI:(B.m:Int)≤12:=by omega
        clear hGWk hBk hgk hrl HGW
        by_cases hkB:k<B.m
        · have hkl:(k:Int)<(B.m:Int):=by omega
          go_wp2
          clear c0 c1 c2 cz
          go_loopw [10,2] (fun vi vf wi=>∃(i f:Nat) (B:Bs) (tvL tvP:Value) (LS PS:List Value),i≤k∧vi= .int .i64 (i:Int)∧vf= .int .i64 (f:Int)∧f≤60∧GW w w2.heap.size j o wi B tvL tvP LS PS∧ET o j B∧k<B.m∧pW o j f B (cZ k+i)=G) (fun vi _ _=>k-(intOf vi).toNat)
          case atStart=>exact⟨0,f,B,_,_,_,_,gL _,rfl,rfl,hf60,HGWk.out,HBk.out,hkB,HGk.out⟩
          case round=>
            obtain⟨i,f',B',tvL',tvP',LS',PS',hik,rfl,rfl,hf60',hGWi,hBi,hkB',hgi⟩:=hrel
            have HGWi:=aA hGWi
            have HBi:=aA hBi
            have HGi:=aA hgi
            have m12':=(aT hBi.l).1
            obtain⟨la',lc',lad',lcp',rfl,_⟩:=hGWi.book.readL (by omega)
            obtain⟨pa',pc',pA',pC',pAD',pCP',rfl,_⟩:=hGWi.book.readP (by omega)
            obtain⟨⟨c0,c1,c2⟩,cz⟩:=hGWi.box
            obtain⟨⟨r0,r1,r2⟩,rz⟩:=hGWi.res
            have hne7:w2.heap.size≠w.heap.size:=by omega
            have hne8:w.heap.size≠w2.heap.size:=by omega
            have hwi:w2.heap.size<wr.heap.size:=hGWi.box.lt
            clear hGWi hBi hgi HGWk HBk HGk
            by_cases hlt:i<k
            · have hil:(i:Int)<(k:Int):=by omega
              have hjt:cZ k+i<cZ B'.m:=VQ hkB' hlt
              rcases f' with _|f'
              · have HE:=aA (HGi.out.symm.trans (ON hjt))
                clear HGi hjt
                go_wp2
                refine cB (v:=.agg #[.slice la' B'.m lc',.slice pa' B'.m pc',.bool false]) (by simp[results,Tryz.results78,go_sem, *]) rfl ?_
                rw[HE.out]
                exact yW HGWi.out false _ _ _
              · have hf1:(((f'+1:Nat):Int)==0)=false:=by simp;omega
                have hfw:IntKind.i64.wrap (((f'+1:Nat):Int)-1)=(f':Int):=by rw[IntKind.wrap_i64];omega
                obtain⟨E,hE⟩:∃E,fV o j B' i k=E:=⟨_,rfl⟩
                have HJT:=aA hjt
                have hcs:=UI (Y2 w.heap.size w2.heap.size) wr (fun b q=>by rcases q with q|q<;>omega) w.heap.size (.slice la' B'.m lc') (.slice pa' B'.m pc') false j (by omega) B' LS' PS' o HBi.out HGWi.out.book i k (by omega) hkB' (by omega)
                rw[hE]at hcs
                have HCS:=aA hcs
                have HE:=aA hE
                clear hcs hE hjt
                go_wp2_with fail
                refine HCS.out.mono ?_
                rintro e w9 hp
                clear c0 c1 c2 cz r0 r1 r2 rz
                rcases hp with⟨rfl,rfl,hb9⟩|⟨B2,tvL2,tvP2,LS2,PS2,rfl,rfl,hf9,hk9⟩
                · have HEG:=aA ((LI (f:=f') HJT.out hlt HE.out).symm.trans HGi.out)
                  have hb9':=aB hb9 (aC w9 (.cells #[.slice la' B'.m lc',.slice pa' B'.m pc',.bool false] 103))
                  have HGW9:=aA (HGWi.out.below hb9')
                  obtain⟨⟨c0,c1,c2⟩,cz⟩:=HGW9.out.box
                  obtain⟨⟨r0,r1,r2⟩,rz⟩:=HGW9.out.res
                  clear hb9 hb9'
                  go_wp2
                  refine cB (v:=.agg #[.slice la' B'.m lc',.slice pa' B'.m pc',.bool false]) (by simp[results,Tryz.results78,go_sem, *]) rfl ?_
                  rw[←HEG.out]
                  exact yW HGW9.out false _ _ _
                · have HGN:=aA ((LJ (f:=f') HJT.out hlt HE.out).symm.trans HGi.out)
                  have HST:=aA (HGWi.out.step hs2 hf9 hk9)
                  have m2:=(aT (xG HBi.out (by omega) hkB' HE.out).l).1
                  have hm2:=VN HE.out
                  obtain⟨la2,lc2,lad2,lcp2,rfl,_⟩:=hk9.readL (by omega)
                  obtain⟨pa2,pc2,pA2,pC2,pAD2,pCP2,rfl,_⟩:=hk9.readP (by omega)
                  obtain⟨⟨c0,c1,c2⟩,cz⟩:=HST.out.1.1
                  have hw9:w2.heap.size<w9.heap.size:=HST.out.1.1.lt
                  have HOK2:=aA (xG HBi.out (by omega) hkB' HE.out)
                  clear hf9 hk9
                  go_wp2
                  go_roundw
                  case rel=>exact⟨i+1,f',B2,_,_,_,_,by omega,by go_num,rfl,by omega,HST.out.2.below (aC _ _),HOK2.out,by omega,HGN.out⟩
                  case measure=>simp[intOf];omega
            · have hie:i=k:=by omega
              subst hie
              have hnl:¬(i:Int)<(i:Int):=by omega
              go_wp2
              go_roundw
              case rel=>exact⟨i+1,f',B',_,_,_,_,by omega,by omega,by go_num,rfl,hf60',HGWi.out,HBi.out,HGi.out⟩
              case measure=>simp[intOf];omega
        · have hkl:¬(k:Int)<(B.m:Int):=by omega
          have HE:=aA (HGk.out.symm.trans (LK (xP (by omega))))
          obtain⟨⟨r0,r1,r2⟩,rz⟩:=HGWk.out.res
          have hne7:w2.heap.size≠w.heap.size:=by omega
          have hne8:w.heap.size≠w2.heap.size:=by omega
          go_wp2
          refine cB (v:=.agg #[.slice la B.m lc,.slice pa B.m pc,.bool true]) (by simp[results,Tryz.results78,go_sem, *]) rfl ?_
          rw[HE.out]
          exact FQ HGWk.out (by omega) _ _ _ _
theorem OL (w:World) (o:Int) (a:Option Addr) (n cap:Nat) (ad:Nat→Option Addr) (cp:Nat→Nat) (L:Nat→List T) (h:fZ w a n cap ad (lN L) cp (fN L)) (fuel:Int):Calls Tryz.prog 78 #[.int .i64 o,.slice a n cap,.int .i64 fuel] w (CC w n (lL o n L fuel)):=by
 by_cases hc:(1≤o∧o≤3)∧aW n (lN L) (fN L)=true∧(1≤n∧n≤3)∧(0≤fuel∧fuel≤60)
 ·obtain⟨fu,rfl⟩:∃fu:Nat,fuel=(fu:Int):=⟨fuel.toNat,by omega⟩
  exact CY w o a n cap ad cp L h fu hc.1 hc.2.1 hc.2.2.1 (by omega) (by unfold lL;rw[if_pos hc,Int.toNat_natCast])
 ·rw[CZ hc];exact AA w o a n cap ad cp L h fuel hc
inductive fQ (n:Nat) (L:Nat→List T):Lq→Prop
 |nil:fQ n L Lq.nil
 |cons {A:Lq} (c:Fq) (m:M) (j:Nat):j<n→m.nn→fQ n L A→fQ n L (Lq.sum (Lq.sc c (Lq.mul (mo aI m) (Rp aI (L j)))) A)
theorem RF (d:Fq):Lq.sc d Lq.nil=Lq.nil:=Lq.ext fun u n k=>by show d*(0:Fq)=0;grind
theorem AR (A:Lq):Lq.sum Lq.nil A=A:=by rw[Lq.sum_comm,Lq.sum_nil]
section
variable {o:Int} {n:Nat} {L:Nat→List T}
theorem fQ.sum {A B:Lq} (h:fQ n L A) (h':fQ n L B):fQ n L (Lq.sum A B):=by
 induction h with
 |nil=>rw[AR];exact h'
 |cons c m j h1 h2 h3 ih=>rw[Lq.sum_assoc];exact fQ.cons c m j h1 h2 ih
theorem fQ.sc {A:Lq} (d:Fq) (h:fQ n L A):fQ n L (Lq.sc d A):=by
 induction h with
 |nil=>rw[RF];exact fQ.nil
 |cons c m j h1 h2 h3 ih=>rw[Lq.sc_sum,Lq.sc_sc];exact fQ.cons _ m j h1 h2 ih
theorem fQ.one (c:Fq) {m:M} {j:Nat} (h1:j<n) (h2:m.nn):fQ n L (Lq.sc c (Lq.mul (mo aI m) (Rp aI (L j)))):=by
 have:=fQ.cons c m j h1 h2 (fQ.nil (n:=n) (L:=L))
 rwa[Lq.sum_nil]at this
theorem Lo.idl {δ:M} {A:Lq} (h:Lo o n L δ A):fQ n L A:=by
 induction h with
 |nil=>exact fQ.nil
 |cons c m j h1 h2 h3 h4 ih=>exact fQ.cons c m j h1 h2 ih
theorem Lw.idl {μ:M} {A:Lq} {j:Nat} (hj:j<n) (h:Lw aI o μ A):fQ n L (Lq.mul A (Rp aI (L j))):=by
 induction h with
 |nil=>rw[Lq.nil_mul];exact fQ.nil
 |cons c m h1 h2 h3 ih=>rw[Lq.sum_mul,Lq.sc_mul];exact fQ.cons c m j hj h1 ih
theorem fQ.mulMo {A:Lq} (h:fQ n L A) {s:M} (hs:s.nn):fQ n L (Lq.mul (mo aI s) A):=by
 induction h with
 |nil=>rw[Lq.mul_nil];exact fQ.nil
 |cons c m j h1 h2 h3 ih=>
  rw[Lq.mul_sum,Lq.mul_sc,←Lq.mul_assoc];obtain⟨B,hB,e⟩:=qT aI (o:=1) ⟨by omega,by omega⟩ hs h2;rw[e,Lq.sum_mul];refine fQ.sum (fQ.sc c (fQ.sum ?_ (hB.idl h1))) ih;have:=fQ.one (L:=L) 1 h1 (iC hs h2)
  rwa[Lq.sc_one]at this
theorem GV (g:sS) (t:T) (r:List T):Rp g (t::r)=Lq.sum (Lq.sc (zz t.c) (mo g t.m)) (Rp g r):=Lq.ext fun u n k=>rfl
theorem fQ.mulRp {A:Lq} (h:fQ n L A):∀q:List T,(∀t∈q,t.m.nn)→fQ n L (Lq.mul (Rp aI q) A)
 |[],_=>by rw[lP,Lq.nil_mul];exact fQ.nil
 |t::r,hq=>by rw[GV,Lq.sum_mul,Lq.sc_mul];exact fQ.sum (fQ.sc _ (h.mulMo (hq t (List.mem_cons_self ..)))) (fQ.mulRp h r (fun s hs=>hq s (List.mem_cons_of_mem _ hs)))
theorem AN (A:Lq):Lq.mul (mo aI ⟨0,0,0,0⟩) A=A:=rfl
theorem zM {j:Nat} (hj:j<n):fQ n L (Rp aI (L j)):=by
 have:=fQ.one (L:=L) 1 hj (m:=⟨0,0,0,0⟩) ⟨by decide,by decide,by decide,by decide⟩
 rwa[Lq.sc_one,AN]at this
theorem fQ.trans {n':Nat} {L':Nat→List T} (hg:∀j,j<n→fQ n' L' (Rp aI (L j))) {A:Lq} (h:fQ n L A):fQ n' L' A:=by
 induction h with
 |nil=>exact fQ.nil
 |cons c m j h1 h2 h3 ih=>exact fQ.sum (fQ.sc c ((hg j h1).mulMo h2)) ih
theorem wC {q:List T} (h:aK q):∀t∈q,t.m.nn:=fun t ht=>mP (h.2 t ht).1
theorem fQ.sumN {f:Nat→Lq}:∀k,(∀i,i<k→fQ n L (f i))→fQ n L (Lq.sumN f k)
 |0,_=>fQ.nil
 |k+1,h=>fQ.sum (fQ.sumN k (fun i hi=>h i (by omega))) (h k (by omega))
theorem fQ.qsum {q:Nat→List T} (hq:∀i,i<n→aK (q i)):fQ n L (qsum aI n L q):=fQ.sumN n fun i hi=>(zM hi).mulRp _ (wC (hq i hi))
theorem OQ (o:Int) {a b:M} (hb:b.nn):nA o a ((a.sum b).sum ⟨1,0,0,0⟩):=by
 obtain⟨h1,h2,h3,h4⟩:=hb;unfold nA kf M.sum;simp only;by_cases o1:o=1
 ·simp only[if_pos o1];omega
 ·by_cases o3:o=3
  ·simp only[if_neg o1,if_pos o3];omega
  ·simp only[if_neg o1,if_neg o3];refine Or.inr ⟨trivial,?_⟩;by_cases q1:b.d=0
   ·refine Or.inr ⟨by omega,?_⟩;by_cases q2:b.e=0
    ·exact Or.inr ⟨by omega,Or.inl (by omega)⟩
    ·exact Or.inl (by omega)
   ·exact Or.inl (by omega)
theorem M.sum_comm (a b:M):a.sum b=b.sum a:=by unfold M.sum;refine oF ?_ ?_ ?_ ?_<;>(simp only;omega)
theorem fQ.lo (hL:qZ o n L) {A:Lq} (h:fQ n L A):∃δ:M,δ.nn∧Lo o n L δ A:=by
 induction h with
 |nil=>exact⟨⟨0,0,0,0⟩,⟨by decide,by decide,by decide,by decide⟩,Lo.nil⟩
 |cons c m j h1 h2 h3 ih=>
  obtain⟨δ,d1,d2⟩:=ih;have hμ:=iC h2 (hL.nn h1)
  refine⟨((m.sum (eO o L j)).sum δ).sum ⟨1,0,0,0⟩,iC (iC hμ d1) ⟨by decide,by decide,by decide,by decide⟩,Lo.cons c m j h1 h2 (OQ o d1) (d2.mono (.inl ?_))⟩;rw[M.sum_comm (m.sum (eO o L j)) δ];exact OQ o hμ
theorem fQ.le (hL:qZ o n L) {A:Lq} (h:fQ n L A):A=Lq.nil∨∃δ:M,δ.nn∧Le o n L δ A:=by
 obtain⟨δ,_,h2⟩:=h.lo hL;rcases h2.max hL with q|⟨δ',d1,_,d3⟩
 ·exact .inl q
 ·exact .inr ⟨δ',d1,d3⟩
def JW (o:Int) (n:Nat) (L:Nat→List T):Prop:=∀A,fQ n L A→A≠Lq.nil→∃m j,m.nn∧j<n∧M.le (eO o L j) m∧uG A m≠0
theorem WR (hL:qZ o n L) (hP:∀i k,i<k→k<n→vM o n L i k):JW o n L:=fun A hA hne=>by
 rcases hA.le hL with q|⟨δ,d1,d2⟩
 ·exact absurd q hne
 ·exact KO hL hP δ d1 A d2 hne
theorem IM (φ:M→Fq):∀r:List T,kK φ r≠0→∃t∈r,φ t.m≠0
 |[],h=>absurd rfl h
 |t::r,h=>by
  by_cases e:φ t.m=0
  ·have h':kK φ r≠0:=fun q=>h (by show zz t.c*φ t.m+kK φ r=0;rw[e,q];grind);obtain⟨s,hs,hh⟩:=IM φ r h';exact⟨s,List.mem_cons_of_mem _ hs,hh⟩
  ·exact⟨t,List.mem_cons_self ..,e⟩
theorem WW {r:List T} (hr:aK r) {m:M} (hm:m.nn) (h:uG (Rp aI r) m≠0):∃t∈r,t.m=m:=by
 rw[WD r (wC hr) hm]at h;obtain⟨t,ht,hh⟩:=IM _ r h;refine⟨t,ht,?_⟩;unfold dl at hh;by_cases e:gB m t.m=true
 ·exact(dL.1 e).symm
 ·rw[if_neg e]at hh;exact absurd rfl hh
theorem WY {a b:M} (ha:a.ok=true) (hb:b.ok=true) (h:M.le a b):M.dvd a b=true:=by unfold M.dvd;rw[ha,hb];exact decide_eq_true h
theorem wL (ho:1≤o∧o≤3) (hl:aW n (lN L) (fN L)=true):qZ o n L:=⟨ho,fun j hj=>⟨((aT hl).2 j hj).2,((aT hl).2 j hj).1⟩⟩
theorem JW.free (hB:JW o n L) (hL:qZ o n L) {r:List T} (hr:aK r) (hi:fQ n L (Rp aI r)) (hf:∀t∈r,∀i,i<n→M.dvd (dQ o (L i)).m t.m=false):r=[]:=by
 by_cases h0:r=[]
 ·exact h0
 ·obtain⟨m,j,h1,h2,h3,h4⟩:=hB _ hi (fun e=>h0 (TG hr e));obtain⟨t,ht,e⟩:=WW hr h1 h4;have:=hf t ht j h2
  rw[WY (hL.good h2).1 (hr.2 t ht).1 (by rw[e];exact h3)]at this;cases this
theorem JU:zz 100= -1:=by decide
theorem IK {p:List T} {S:Dv} (h:aP o p n (lN L) (fN L)=some S):Rp aI S.r=Lq.sum (Rp aI p) (Lq.sc (-1) (qsum aI n L S.q)):=by
 rw[←lC aI h];refine Lq.ext fun u a b=>?_;simp only[xL,GH]
 grind
theorem wX {p:List T} {S:Dv} (h:aP o p n (lN L) (fN L)=some S):fQ n L (qsum aI n L S.q):=fQ.qsum fun i _=>((dT h).1.q i).1
theorem JW.left (hB:JW o n L) {p:List T} {S:Dv} (h:aP o p n (lN L) (fN L)=some S) (hi:fQ n L (Rp aI p)):S.r=[]:=by obtain⟨ho,_,hl,_⟩:=dS h;refine hB.free (wL ho hl) (dT h).1.r.1 ?_ (xA h);rw[IK h];exact hi.sum ((wX h).sc _)
theorem Lo.rp {δ:M} {j:Nat} (hj:j<n):∀q:List T,(∀t∈q,t.m.nn∧nA o (t.m.sum (eO o L j)) δ)→Lo o n L δ (Lq.mul (Rp aI q) (Rp aI (L j)))
 |[],_=>by rw[lP,Lq.nil_mul];exact Lo.nil
 |t::r,hq=>by rw[GV,Lq.sum_mul,Lq.sc_mul];obtain⟨h1,h2⟩:=hq t (List.mem_cons_self ..);exact Lo.cons _ t.m j hj h1 h2 (Lo.rp hj r (fun s hs=>hq s (List.mem_cons_of_mem _ hs)))
theorem Lo.sumN {δ:M} {f:Nat→Lq}:∀k,(∀i,i<k→Lo o n L δ (f i))→Lo o n L δ (Lq.sumN f k)
 |0,_=>Lo.nil
 |k+1,h=>Lo.sum (Lo.sumN k (fun i hi=>h i (by omega))) (h k (by omega))
theorem XS (a b:Int):mx a b=if a≤b then b else a:=by unfold mx;split<;>split<;>omega
theorem NU {a b:M} (ha:a.ok=true) (hb:b.ok=true):M.both a b=M.lcm a b:=by unfold M.both M.lcm;rw[if_pos ⟨ha,hb⟩];simp only[XS]
theorem DK {a b c:M} (h:M.mul a b=(c,true)):a.sum b=c∧c.ok=true:=by
 unfold M.mul at h;split at h
 ·rename_i hh;cases h;exact⟨rfl,hh.2.2⟩
 ·cases h
theorem ZA {a b:Int} (h:c3 a b<0):a<b:=by unfold c3 at h;split at h<;>(try split at h)<;>omega
theorem JO {a b c:M} (h:a.sum b=c):a=M.sub c b:=by rw[←h];unfold M.sub M.sum;refine oF ?_ ?_ ?_ ?_<;>(simp only;omega)
theorem WI {a b:Int} (ha:1≤a∧a≤100) (hb:1≤b∧b≤100) (h:oQ a b=1):zz a*zz b=1:=by rw[iD (by omega) ha.2 (by omega) hb.2]at h;rw[←mD,←jU,h];rfl
theorem BL (hL:qZ o n L) {i k:Nat} (hi:i<n) (hk:k<n) {s:List T} (hs:dC o (lf (L i)) (L i).length (lf (L k)) (L k).length=(s,true)):∃U V:T,U=fC o (L i).length (lf (L i)) (L k).length (lf (L k))∧V=fD o (L i).length (lf (L i)) (L k).length (lf (L k))∧zz U.c*zz (dQ o (L i)).c=1∧zz V.c*zz (dQ o (L k)).c=1∧U.m=M.sub (M.lcm (eO o L i) (eO o L k)) (eO o L i)∧V.m=M.sub (M.lcm (eO o L i) (eO o L k)) (eO o L k)∧Rp aI s=Lq.sum (Lq.sc (zz U.c) (Lq.mul (mo aI U.m) (Rp aI (L i)))) (Lq.sc (-(zz V.c)) (Lq.mul (mo aI V.m) (Rp aI (L k))))∧(M.lcm (eO o L i) (eO o L k)).ok=true∧∀t∈s,iX o t.m<iX o (M.lcm (eO o L i) (eO o L k)):=by
 obtain⟨hok,X,Y,hX,hY,oX,oY,es,hl⟩:=mB hs;obtain⟨gU,gV⟩:=sM hok;obtain⟨m1,m2,c1,c2,_⟩:=JJ hok;have hb:=MP hs
 have li:bO o (L i).length (lf (L i))=dQ o (L i):=(FM hL.ho (hL.fl i hi).1 (hL.fl i hi).2).symm;have lk:bO o (L k).length (lf (L k))=dQ o (L k):=(FM hL.ho (hL.fl k hk).1 (hL.fl k hk).2).symm
 have eB:mA o (L i).length (lf (L i)) (L k).length (lf (L k))=M.lcm (eO o L i) (eO o L k):=by unfold mA;rw[li,lk];exact NU (hL.good hi).1 (hL.good hk).1
 rw[eB,li]at m1;rw[eB,lk]at m2;rw[li]at c1;rw[lk]at c2;rw[eB]at hb;obtain⟨s1,k1⟩:=DK m1;obtain⟨s2,_⟩:=DK m2;refine⟨_,_,rfl,rfl,WI gU.2 (hL.good hi).2 c1,WI gV.2 (hL.good hk).2 c2,JO s1,JO s2,?_,k1,fun t ht=>?_⟩
 ·rw[es,oI aI (aE oX).2 (aE oY).2,qI aI hX,qI aI hY,vN,vN,Lq.sc_mul,Lq.sc_mul,Lq.sc_sc,JU];congr 2
  grind
 ·have fs:aK s:=(aE (RR hs)).2;have:=hb t ht
  unfold M.cmp at this;rw[if_pos ⟨hL.ho,(fs.2 t ht).1,k1⟩,AY hL.ho (fs.2 t ht).1 k1]at this;exact ZA this
theorem JL (hL:qZ o n L) {s:List T} {S:Dv} (hr:aP o s n (lN L) (fN L)=some S) {μ:M} (hμ:μ.ok=true) (hs:∀t∈s,iX o t.m<iX o μ):Lo o n L μ (qsum aI n L S.q)∧∀t∈S.r,iX o t.m<iX o μ:=by
 obtain⟨r1,r2⟩:=QQ hr (N:=iX o μ-1) (fun t ht=>by have:=hs t ht;omega);refine⟨Lo.sumN n fun i hi=>Lo.rp hi _ (fun t ht=>?_),fun t ht=>by have:=r1 t ht;omega⟩;obtain⟨h1,h2⟩:=r2 i hi t ht;have fq:=(dT hr).1.q i
 exact⟨mP (fq.1.2 t ht).1,AX hL.ho h1 hμ (by show iX o (t.m.sum (dQ o (L i)).m)<_;omega)⟩
theorem DQ (hL:qZ o n L) {i k:Nat} (hi:i<n) (hk:k<n) {s:List T} (hs:dC o (lf (L i)) (L i).length (lf (L k)) (L k).length=(s,true)) (h:Lo o n L (M.lcm (eO o L i) (eO o L k)) (Rp aI s)):vM o n L i k:=fun u v hu hv=>by
 obtain⟨U,V,_,_,u1,v1,um,vm,e,_⟩:=BL hL hi hk hs;have eu:u=zz U.c:=by
  have:u*(zz (dQ o (L i)).c*zz U.c)=zz U.c:=by rw[←Fin.mul_assoc,hu];grind
  have u1':zz (dQ o (L i)).c*zz U.c=1:=by grind
  rw[u1']at this
  grind
 have ev:v=zz V.c:=by
  have:v*(zz (dQ o (L k)).c*zz V.c)=zz V.c:=by rw[←Fin.mul_assoc,hv];grind
  have u1':zz (dQ o (L k)).c*zz V.c=1:=by grind
  rw[u1']at this
  grind
 rw[e]at h;rw[eu,ev,←um,←vm];exact h
theorem zC (hL:qZ o n L) {i k:Nat} (hi:i<n) (hk:k<n) {s:List T} (hs:dC o (lf (L i)) (L i).length (lf (L k)) (L k).length=(s,true)) {S:Dv} (hr:aP o s n (lN L) (fN L)=some S) (h0:S.r=[]):vM o n L i k:=by obtain⟨U,V,_,_,u1,v1,um,vm,e,k1,hb⟩:=BL hL hi hk hs;refine DQ hL hi hk hs ?_;rw[←lC aI hr,h0,lP,Lq.sum_nil];exact(JL hL hr k1 hb).1
end
end Go.Proofs.YtncffcaabnjioaaGreat
namespace Go.Proofs.YtncffcaabnjioaaGreat
open Go.RowKit Go.Deep Go.Joins
set_option linter.unusedVariables false
theorem VU {q X P:List T} (hq:cT q=true) (hX:cT X=true) (h:bY (lf q) (lf X) X.length q.length=some P):lF q X=(P,true):=by unfold lF bJ;rw[if_pos ⟨hq,hX⟩,h];rfl
theorem OW (g:sS) {R q X Y:List T} (hR:cT R=true) (hq:cT q=true) (hX:cT X=true) (h:iG R q X=some Y):Rp g Y=Lq.sum (Rp g R) (Lq.sc (-1) (Lq.mul (Rp g q) (Rp g X))):=by
 unfold iG at h;split at h
 ·rename_i P hP;split at h
  ·have hw:=VU hq hX hP;cases h;rw[oI g (aE hR).2 (aE (xW hw)).2,qI g hw,JU]
  ·cases h
 ·cases h
theorem DD {row:Nat→List T} {q:List T} {oth:Nat→List T} {g:Nat} (hrow:∀i,i<g→cT (row i)=true) (hq:cT q=true) (ho:∀i,i<g→cT (oth i)=true):∀j R,j≤g→dF row q oth j=some R→∀i,i<j→Rp aI (R i)=Lq.sum (Rp aI (row i)) (Lq.sc (-1) (Lq.mul (Rp aI q) (Rp aI (oth i))))
 |0,R,_,_,i,hi=>by omega
 |j+1,R,hj,h,i,hi=>by
  cases hr:dF row q oth j with
  |none=>have:=nC hr 1;rw[this]at h;cases h
  |some R1=>
   cases he:iG (row j) q (oth j)with
   |none=>have:=pJ (g:=j+1) (by omega) hr he;rw[this]at h;cases h
   |some Y=>
    rw[qQ hr he]at h;cases h;unfold fF;split
    ·rename_i e;subst e;exact OW aI (hrow i (by omega)) hq (ho i (by omega)) he
    ·exact DD hrow hq ho j R1 (by omega) hr i (by omega)
theorem MD {g:Nat} {L0 row oth R:Nat→List T} {A:Lq} (h:∀i,i<g→Rp aI (R i)=Lq.sum (Rp aI (row i)) (Lq.sc (-1) (Lq.mul A (Rp aI (oth i))))):qsum aI g L0 R=Lq.sum (qsum aI g L0 row) (Lq.sc (-1) (Lq.mul A (qsum aI g L0 oth))):=by unfold qsum;rw[Lq.mul_sumN,iL,←Lq.sumN_sum];exact Lq.sumN_congr fun i hi=>by rw[h i hi,Lq.sum_mul,Lq.sc_mul,Lq.mul_assoc]
theorem qP {g:Nat} {L0 row oth R:Nat→List T} {q:List T} (hrow:∀i,i<g→cT (row i)=true) (hq:cT q=true) (ho:∀i,i<g→cT (oth i)=true) (h:dF row q oth g=some R):qsum aI g L0 R=Lq.sum (qsum aI g L0 row) (Lq.sc (-1) (Lq.mul (Rp aI q) (qsum aI g L0 oth))):=
 MD (DD hrow hq ho g R (Nat.le_refl _) h)
theorem VW (c:Int):zz (101-c)= -(zz c):=by
 have h:zz (101-c)+zz c=0:=by rw[←GR,show 101-c+c=101 by omega];rfl
 grind
theorem yV {g m:Nat} {L0 L:Nat→List T} {P:Nat→Nat→List T} {i k:Nat} {u v:T} {qs:Nat→List T} (hi:i<m) (hk:k<m) (hP:∀i,i<m→∀j,j<g→cT (P i j)=true) (hu:cT [jV u]=true) (hv:cT [v]=true) (hq:∀t,t<m→cT (qs t)=true) (hpf:∀i,i<m→qsum aI g L0 (P i)=Rp aI (L i)):∀t R,t≤m→iI g P qs (gP g P i k u v) t=some R→qsum aI g L0 R=Lq.sum (Lq.sum (Lq.sc (zz u.c) (Lq.mul (mo aI u.m) (Rp aI (L i)))) (Lq.sc (-(zz v.c)) (Lq.mul (mo aI v.m) (Rp aI (L k))))) (Lq.sc (-1) (qsum aI t L qs))
 |0,R,_,h=>by
  change gP g P i k u v=some R at h;unfold gP at h;split at h
  ·cases h
  ·rename_i R1 h1;have ok1:=mK (fun _ _=>pM) hu (hP i hi) g R1 (Nat.le_refl _) h1
   rw[qP ok1 hv (hP k hk) h,qP (fun _ _=>pM) hu (hP i hi) h1,hpf i hi,hpf k hk,DV,vN,vN];have e:qsum aI 0 L qs=Lq.nil:=rfl
   rw[e,RF,Lq.sum_nil,AR,Lq.sc_mul,Lq.sc_mul,Lq.sc_sc,Lq.sc_sc];show Lq.sum (Lq.sc (-1*zz (101-u.c)) _) _=_
   rw[VW,show(-1:Fq)*-(zz u.c)=zz u.c by grind,show(-1:Fq)*zz v.c= -(zz v.c) by grind];rfl
 |t+1,R,ht,h=>by
  cases hr:iI g P qs (gP g P i k u v) t with
  |none=>have:=iO hr 1;rw[this]at h;cases h
  |some R1=>
   have h':dF R1 (qs t) (P t) g=some R:=by
    have:iI g P qs (gP g P i k u v) (t+1)=dF R1 (qs t) (P t) g:=by show(match iI g P qs (gP g P i k u v) t with|none=>none|some R=>dF R (qs t) (P t) g)=_;rw[hr]
    rw[←this];exact h
   rw[qP (vE hi hk hP hu hv hq t R1 (by omega) hr) (hq t (by omega)) (hP t (by omega)) h',yV hi hk hP hu hv hq hpf t R1 (by omega) hr,hpf t (by omega)];have e:qsum aI (t+1) L qs=Lq.sum (qsum aI t L qs) (Lq.mul (Rp aI (qs t)) (Rp aI (L t))):=rfl
   rw[e];refine Lq.ext fun u a b=>?_;simp only[xL,GH]
   grind
theorem oU {o:Int} {L L':Nat→List T} {j:Nat} (h:L' j=L j):eO o L' j=eO o L j:=by unfold eO;rw[h]
theorem Lo.grow {o:Int} {n n':Nat} {L L':Nat→List T} (hn:n≤n') (h:∀j,j<n→L' j=L j) {δ:M} {A:Lq} (hA:Lo o n L δ A):Lo o n' L' δ A:=by
 induction hA with
 |nil=>exact Lo.nil
 |cons c m j h1 h2 h3 h4 ih=>
  rw[←h j h1];exact Lo.cons c m j (by omega) h2 (by rw[oU (h j h1)];exact h3) ih
theorem vM.grow {o:Int} {n n':Nat} {L L':Nat→List T} (hn:n≤n') (h:∀j,j<n→L' j=L j) {i k:Nat} (hi:i<n) (hk:k<n) (hP:vM o n L i k):vM o n' L' i k:=fun u v hu hv=>by
 rw[h i hi]at hu;rw[h k hk]at hv;rw[oU (h i hi),oU (h k hk),h i hi,h k hk];exact(hP u v hu hv).grow hn h
theorem BU {L:Nat→List T} {m:Nat} {r:List T} {j:Nat} (h:j<m):fF L m r j=L j:=by unfold fF;rw[if_neg (by omega)]
theorem BT {L:Nat→List T} {m:Nat} {r:List T}:fF L m r m=r:=by unfold fF;rw[if_pos rfl]
theorem VS {P:Nat→Nat→List T} {m:Nat} {R:Nat→List T} {j:Nat} (h:j<m):sP P m R j=P j:=by unfold sP;rw[if_neg (by omega)]
theorem VR {P:Nat→Nat→List T} {m:Nat} {R:Nat→List T}:sP P m R m=R:=by unfold sP;rw[if_pos rfl]
structure Mk (o:Int) (g:Nat) (L0:Nat→List T) (B:Bs) (j:Nat):Prop where
 ok:ET o g B
 le:g≤B.m
 pre:∀i,i<g→B.L i=L0 i
 pf:∀i,i<B.m→qsum aI g L0 (B.P i)=Rp aI (B.L i)
 pr:∀i k,i<k→k<B.m→cZ k+i<j→vM o B.m B.L i k
theorem EJ {o:Int} {g:Nat} {B B':Bs} {i k:Nat} (hs:fV o g B i k=some B'):∃s S,RM o (B.L i) (B.L k)=(s,true)∧aP o s B.m (lN B.L) (fN B.L)=some S∧((S.r=[]∧B'=B)∨(S.r.length≠0∧∃R,oD g B.P i k (RN o (B.L i) (B.L k)) (SP o (B.L i) (B.L k)) B.m S.q=some R∧B'=SV B S.r R)):=by
 unfold fV at hs;split at hs
 ·rename_i s hsp;split at hs
  ·rename_i S hS;refine⟨s,S,hsp,hS,?_⟩;split at hs
   ·rename_i h0;cases hs;exact .inl ⟨List.length_eq_zero_iff.1 h0,rfl⟩
   ·rename_i h0;split at hs
    ·cases hs
    ·split at hs
     ·rename_i R hR;cases hs;exact .inr ⟨h0,R,hR,rfl⟩
     ·cases hs
  ·cases hs
 ·cases hs
theorem Mk.step {o:Int} {g:Nat} {L0:Nat→List T} {B B':Bs} {j:Nat} (h:Mk o g L0 B j) (hj:j<cZ B.m) (hs:fV o g B (pq j).1 (pq j).2=some B'):Mk o g L0 B' (j+1):=by
 obtain⟨k,i,hk,hik,ej⟩:=GQ B.m j hj;have epq:pq j=(i,k):=by rw[ej];exact nK k i hik
 rw[epq]at hs;have hs':fV o g B i k=some B':=hs
 have hi:i<B.m:=by omega
 have hok':=xG h.ok hi hk hs';have hL:=wL h.ok.ho h.ok.l
 obtain⟨s,S,hsp,hS,hc⟩:=EJ hs';have one:∀i' k',i'<k'→cZ k'+i'<j+1→cZ k'+i'<j∨(i'=i∧k'=k):=fun i' k' h1 h2=>by
  by_cases e:cZ k'+i'=j
  ·have:=nK k' i' h1;rw[e,epq]at this;cases this;exact .inr ⟨rfl,rfl⟩
  ·exact .inl (by omega)
 obtain⟨U,V,eU,eV,u1,v1,um,vm,e,k1,hb⟩:=BL hL hi hk hsp;obtain⟨lo1,lo2⟩:=JL hL hS k1 hb;rcases hc with⟨h0,rfl⟩|⟨h0,R,hR,rfl⟩
 ·refine⟨hok',h.le,h.pre,h.pf,fun i' k' h1 h2 h3=>?_⟩;rcases one i' k' h1 h3 with q|⟨rfl,rfl⟩
  ·exact h.pr i' k' h1 h2 q
  ·exact zC hL hi hk hsp hS h0
 ·have hok2:=hok';have hle:=h.le
  refine⟨hok',by show g≤B.m+1;omega,fun i' hi'=>(BU (by omega)).trans (h.pre i' hi'),fun i' hi'=>?_,fun i' k' h1 h2 h3=>?_⟩
  ·show qsum aI g L0 (sP B.P B.m R i')=Rp aI (fF B.L B.m S.r i');by_cases ei:i'=B.m
   ·subst ei;rw[VR,BT];obtain⟨⟨_,g2,g3⟩,_⟩:=tT hsp;rw[yV hi hk h.ok.p g2 g3 (fun t _=>gJ (by have:=((dT hS).1.q t).2;omega) ((dT hS).1.q t).1) h.pf B.m R (Nat.le_refl _) hR,IK hS,e,eU,eV]
   ·have hi2:i'<B.m+1:=hi';rw[VS (by omega),BU (by omega)];exact h.pf i' (by omega)
  ·have grow:∀j,j<B.m→fF B.L B.m S.r j=B.L j:=fun j hj=>BU hj;have hk':k'<B.m:=by
    have h2':k'<B.m+1:=h2;by_cases ek:k'=B.m
    ·subst ek;omega
    ·omega
   show vM o (B.m+1) (fF B.L B.m S.r) i' k';rcases one i' k' h1 h3 with q|⟨rfl,rfl⟩
   ·exact(h.pr i' k' h1 hk' q).grow (by omega) grow (by omega) hk'
   ·have hL':=wL hok2.ho hok2.l;have hL2:qZ o (B.m+1) (fF B.L B.m S.r):=hL'
    refine DQ hL2 (by omega) (by omega) (s:=s) (by rw[grow i' hi,grow k' hk];exact hsp) ?_;rw[oU (grow i' hi),oU (grow k' hk),←lC aI hS];refine(lo1.grow (by omega) grow).sum ?_;have hmem:dQ o S.r∈S.r:=kC h0
    have hr:=(dT hS).1.r.1
    have:=Lo.one (o:=o) (n:=B.m+1) (L:=fF B.L B.m S.r) (δ:=M.lcm (eO o B.L i') (eO o B.L k')) 1 (m:=⟨0,0,0,0⟩) (j:=B.m) (by omega) ⟨by decide,by decide,by decide,by decide⟩ (by
     have e0:M.sum ⟨0,0,0,0⟩ (eO o (fF B.L B.m S.r) B.m)=(dQ o S.r).m:=by unfold eO;rw[BT];unfold M.sum;refine oF ?_ ?_ ?_ ?_<;>(simp only;omega)
     rw[e0]
     exact AX hL.ho (hr.2 _ hmem).1 k1 (lo2 _ hmem))
    rw[Lq.sc_one,AN,BT]at this;exact this
theorem DA {o:Int} {g:Nat} {L0:Nat→List T}:∀(f:Nat) (B:Bs) (j:Nat),Mk o g L0 B j→∀B' d,pW o g f B j=(B',d)→∃j',Mk o g L0 B' j'∧(d=true→cZ B'.m≤j')
 |0,B,j,h,B',d,e=>by unfold pW at e;cases e;exact⟨j,h,fun q=>of_decide_eq_true q⟩
 |f+1,B,j,h,B',d,e=>by
  unfold pW at e;split at e
  ·rename_i hj;split at e
   ·cases e;exact⟨j,h,fun q=>by cases q⟩
   ·rename_i B2 hs;exact DA f B2 (j+1) (h.step hj hs) B' d e
  ·cases e;exact⟨j,h,fun _=>by omega⟩
theorem EL (f:Nat→Lq) (i:Nat):∀n,i<n→(∀j,j<n→j≠i→f j=Lq.nil)→Lq.sumN f n=f i
 |0,h,_=>by omega
 |n+1,h,h0=>by
  show Lq.sum (Lq.sumN f n) (f n)=f i;by_cases e:i=n
  ·subst e;have:Lq.sumN f i=Lq.sumN (fun _=>Lq.nil) i:=Lq.sumN_congr fun j hj=>h0 j (by omega) (by omega)
   rw[this,uA,AR]
  ·rw[EL f i n (by omega) (fun j hj=>h0 j (by omega)),h0 n (by omega) (fun q=>e q.symm),Lq.sum_nil]
theorem PQ {n:Nat} {L:Nat→List T} {i:Nat} (hi:i<n):qsum aI n L (nI i)=Rp aI (L i):=by
 unfold qsum
 rw[EL _ i n hi (fun j hj hne=>by
  unfold nI
  rw[if_neg hne,lP,Lq.nil_mul])]
 unfold nI;rw[if_pos rfl,vN,Lq.sc_mul,AN];exact Lq.sc_one _
theorem Mk.start {o:Int} {n:Nat} {L:Nat→List T} (ho:1≤o∧o≤3) (hl:aW n (lN L) (fN L)=true):Mk o n L (OK n L) 0:=
 ⟨IF ho hl,Nat.le_refl _,fun _ _=>rfl,fun i hi=>PQ hi,fun i k _ _ h=>by omega⟩
theorem FG {o:Int} {n:Nat} {L:Nat→List T} {fuel:Int} {B:Bs} {d:Bool} (h:lL o n L fuel=(B,d)):(B.m=0∧d=false∧¬((1≤o∧o≤3)∧aW n (lN L) (fN L)=true∧(1≤n∧n≤3)∧(0≤fuel∧fuel≤60)))∨(((1≤o∧o≤3)∧aW n (lN L) (fN L)=true∧(1≤n∧n≤3)∧(0≤fuel∧fuel≤60))∧∃j,Mk o n L B j∧(d=true→cZ B.m≤j)):=by
 unfold lL at h;split at h
 ·rename_i hc;exact .inr ⟨hc,DA fuel.toNat _ 0 (Mk.start hc.1 hc.2.1) B d h⟩
 ·rename_i hc;cases h;exact .inl ⟨rfl,rfl,hc⟩
theorem Mk.idl {o:Int} {g:Nat} {L0:Nat→List T} {B:Bs} {j:Nat} (h:Mk o g L0 B j) {i:Nat} (hi:i<B.m):fQ g L0 (Rp aI (B.L i)):=by rw[←h.pf i hi];exact fQ.qsum fun t ht=>(aE (h.ok.p i hi t ht)).2
end Go.Proofs.YtncffcaabnjioaaGreat
