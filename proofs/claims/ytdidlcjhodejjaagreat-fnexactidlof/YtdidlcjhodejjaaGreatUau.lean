/-
  The draw of an operator, one in so many with something wrong: some terms in memory of its own.
-/
import Derived.Test.YtdidlcjhodejjaaGreatUah
import Derived.Test.YtdidlcjhodejjaaGreatUaj
import Derived.Deep.RegionWith
import Derived.Test.YtdidlcjhodejjaaGreatUak
import Derived.Test.YtdidlcjhodejjaaGreatUap
import Derived.Test.YtdidlcjhodejjaaGreatUas
namespace Go.Proofs.YtdidlcjhodejjaaGreat
open Go.RowKit
set_option linter.unusedVariables false
end Go.Proofs.YtdidlcjhodejjaaGreat
namespace Go.Proofs.YtdidlcjhodejjaaGreat
open Go.RowKit
set_option linter.unusedVariables false
end Go.Proofs.YtdidlcjhodejjaaGreat
namespace Go.Proofs.YtdidlcjhodejjaaGreat
open Go.RowKit
set_option linter.unusedVariables false
end Go.Proofs.YtdidlcjhodejjaaGreat
namespace Go.Proofs.YtdidlcjhodejjaaGreat
open Go.RowKit
set_option linter.unusedVariables false
def wmV (L K:List T):List T × Bool:=wylMul (lf L) L.length (lf K) K.length
theorem rowM_falls2 {K:List T} {a:T} {g:Nat→T} {lb:Nat} (hK:Falls K) (ha:a.m.ok=true∧0≤a.c∧a.c≤100) (hg:Good g lb):∀ k K',k≤lb→rowM K a g k=some K'→Falls K'
 | 0,K',_,h=>by cases h;exact hK
 | k+1,K',hk,h=>by
  rw [rowM] at h
  cases hr:rowM K a g k with
  | none=>rw [hr] at h;cases h
  | some K1=>
   rw [hr] at h
   change stepM K1 a (g k)=some K' at h
   have h1:=rowM_falls2 hK ha hg k K1 (by omega) hr
   unfold stepM at h
   split at h
   ·rename_i hok
    cases h
    have h2:=hg k (by omega)
    exact (addL_facts h1 (pairL_facts ⟨ha.1,h2.1,hok.1,rfl,rfl,rfl,rfl,ha.2,h2.2⟩).1).1
   ·cases h
theorem mulM_falls2 {f g:Nat→T} {la lb:Nat} (hf:Good f la) (hg:Good g lb):∀ i K,i≤la→mulM f g lb i=some K→Falls K
 | 0,K,_,h=>by cases h;exact falls_nil
 | i+1,K,hi,h=>by
  rw [mulM] at h
  cases hr:mulM f g lb i with
  | none=>rw [hr] at h;cases h
  | some K1=>
   rw [hr] at h
   exact rowM_falls2 (mulM_falls2 hf hg i K1 (by omega) hr) (hf i (by omega)) hg lb K (Nat.le_refl _) h
theorem wmV_case (L K:List T):wmV L K=([],false)∨∃ P,wmV L K=(P,true)∧okL P=true:=by
 unfold wmV wylMul
 split
 ·rename_i h
  obtain ⟨l1,g1⟩:=good_ok h.1
  obtain ⟨l2,g2⟩:=good_ok h.2
  cases hm:mulM (lf L) (lf K) K.length L.length with
  | none=>exact .inl rfl
  | some P=>exact .inr ⟨P,rfl,okL_of (mulM_len _ P hm) (mulM_falls2 g1 g2 _ P (Nat.le_refl _) hm)⟩
 ·exact .inl rfl
variable {w:World} {a b:Option Addr} {ca cb:Nat} {L K:List T}
end Go.Proofs.YtdidlcjhodejjaaGreat
