/-
  Whether an operator is free of others: the program.
-/
import Derived.Test.YtdidlcjhodejjaaGreatUaw
import Derived.Test.YtdidlcjhodejjaaGreatUbk
import Derived.Test.YtdidlcjhodejjaaGreatUbl
import Derived.Test.YtdidlcjhodejjaaGreatUbh
import Derived.Test.YtdidlcjhodejjaaGreatUbb
import Derived.Test.YtdidlcjhodejjaaGreatUbi
namespace Go.Proofs.YtdidlcjhodejjaaGreat
open Go.RowKit Go.Deep Go.Joins
set_option linter.unusedVariables false
end Go.Proofs.YtdidlcjhodejjaaGreat
namespace Go.Proofs.YtdidlcjhodejjaaGreat
open Go.RowKit Go.Deep Go.Joins
set_option linter.unusedVariables false
end Go.Proofs.YtdidlcjhodejjaaGreat
namespace Go.Proofs.YtdidlcjhodejjaaGreat
open Go.RowKit Go.Deep Go.Joins
set_option linter.unusedVariables false
theorem RSo.below {N:Nat→Prop} {w w':World} {a:Option Addr} {g c:Nat} {ad:Nat→Option Addr} {cp:Nat→Nat} {Q:Nat→List T} (h:RSo N w a g c ad cp Q) (hb:Below w.heap.size w w'):RSo N w' a g c ad cp Q:=h.fr (P:=fun _=>False) (Fr.of_below hb) (fun _ _ q=>q)
theorem grbMake_m {o:Int} {n:Nat} {L:Nat→List T} {fuel:Int}:(grbMake o n L fuel).1.m≤12:=by
 obtain ⟨B,d,h⟩:∃ B d,grbMake o n L fuel=(B,d):=⟨_,_,rfl⟩
 rw [h]
 rcases grbMake_mk h with ⟨h0,_⟩ | ⟨_,j,hm,_⟩
 ·show B.m≤12;omega
 ·exact (lstOk_all hm.ok.l).1
end Go.Proofs.YtdidlcjhodejjaaGreat
namespace Go.Proofs.YtdidlcjhodejjaaGreat
open Go.RowKit Go.Deep Go.Joins
set_option linter.unusedVariables false
def rowO (f:Nat→Option (List T)):Nat→Option (Nat→List T)
 | 0=>some (fun _=>[])
 | j+1=>match rowO f j with
  | none=>none
  | some R=>match f j with
   | none=>none
   | some Y=>some (updL R j Y)
theorem rowO_step {f:Nat→Option (List T)} {j:Nat} {R:Nat→List T} {Y:List T} (h:rowO f j=some R) (hf:f j=some Y):rowO f (j+1)=some (updL R j Y):=by
 show (match rowO f j with | none=>none | some R=>match f j with | none=>none | some Y=>some (updL R j Y))=_
 rw [h]
 show (match f j with | none=>none | some Y=>some (updL R j Y))=_
 rw [hf]
theorem rowO_up {f:Nat→Option (List T)} {j:Nat} (h:rowO f j=none):rowO f (j+1)=none:=by
 show (match rowO f j with | none=>none | some R=>match f j with | none=>none | some Y=>some (updL R j Y))=_
 rw [h]
theorem rowO_bad {f:Nat→Option (List T)} {j:Nat} (h:f j=none):rowO f (j+1)=none:=by
 show (match rowO f j with | none=>none | some R=>match f j with | none=>none | some Y=>some (updL R j Y))=_
 rw [h]
 cases rowO f j <;> rfl
theorem rowO_none {f:Nat→Option (List T)} {i:Nat} (h:f i=none):∀ g,i<g→rowO f g=none
 | 0,hi=>by omega
 | g+1,hi=>by
  by_cases e:i=g
  ·subst e;exact rowO_bad h
  ·exact rowO_up (rowO_none h g (by omega))
theorem rowO_get {f:Nat→Option (List T)}:∀ g R,rowO f g=some R→∀ i,i<g→f i=some (R i)
 | 0,R,_,i,hi=>by omega
 | g+1,R,h,i,hi=>by
  cases hr:rowO f g with
  | none=>rw [rowO_up hr] at h;cases h
  | some R1=>
   cases hf:f g with
   | none=>rw [rowO_bad hf] at h;cases h
   | some Y=>
    rw [rowO_step hr hf] at h
    cases h
    unfold updL
    split
    ·rename_i e;rw [e];exact hf
    ·exact rowO_get g R1 hr i (by omega)
theorem rowO_congr {f f':Nat→Option (List T)}:∀ g,(∀ i,i<g→f i=f' i)→rowO f g=rowO f' g
 | 0,_=>rfl
 | g+1,h=>by
  show (match rowO f g with | none=>none | some R=>match f g with | none=>none | some Y=>some (updL R g Y))=(match rowO f' g with | none=>none | some R=>match f' g with | none=>none | some Y=>some (updL R g Y))
  rw [rowO_congr g (fun i hi=>h i (by omega)),h g (by omega)]
theorem lessR_row (row:Nat→List T) (q:List T) (oth:Nat→List T):∀ g,lessR row q oth g=rowO (fun i=>lessE (row i) q (oth i)) g
 | 0=>rfl
 | g+1=>by
  show (match lessR row q oth g with | none=>none | some R=>match lessE (row g) q (oth g) with | none=>none | some Y=>some (updL R g Y))=_
  rw [lessR_row row q oth g]
  rfl
theorem row_bind (f:Nat→Option (List T)) (q:List T) (oth:Nat→List T) (g:Nat):(match rowO f g with | none=>none | some R=>lessR R q oth g)=rowO (fun i=>(f i).bind (fun s=>lessE s q (oth i))) g:=by
 cases hr:rowO f g with
 | none=>
  show none=_
  have:∃ i,i<g∧f i=none:=by
   have key:∀ g,(∀ i,i<g→f i≠none)→rowO f g≠none:=fun g=>by
    induction g with
    | zero=>intro _ h;cases h
    | succ g ih=>
     intro h
     cases hg:rowO f g with
     | none=>exact absurd hg (ih (fun i hi=>h i (by omega)))
     | some R=>
      cases hf:f g with
      | none=>exact absurd hf (h g (by omega))
      | some Y=>rw [rowO_step hg hf];simp
   by_cases e:∃ i,i<g∧f i=none
   ·exact e
   ·exact absurd hr (key g (fun i hi q=>e ⟨i,hi,q⟩))
  obtain ⟨i,hi,e⟩:=this
  exact (rowO_none (by rw [e];rfl) g hi).symm
 | some R=>
  show lessR R q oth g=_
  rw [lessR_row]
  exact rowO_congr g fun i hi=>by rw [rowO_get g R hr i hi];rfl
def colM (P:Nat→Nat→List T) (i k:Nat) (u v:T) (q:Nat→List T) (j:Nat):Nat→Option (List T)
 | 0=>(lessE [] [negT1 u] (P i j)).bind (fun s=>lessE s [v] (P k j))
 | t+1=>(colM P i k u v q j t).bind (fun s=>lessE s (q t) (P t j))
theorem madeN_row {g:Nat} {P:Nat→Nat→List T} {i k:Nat} {u v:T} {q:Nat→List T}:∀ t,madeN g P q (made1 g P i k u v) t=rowO (fun j=>colM P i k u v q j t) g
 | 0=>by
  show made1 g P i k u v=_
  have e:made1 g P i k u v=(match rowO (fun j=>lessE [] [negT1 u] (P i j)) g with | none=>none | some R=>lessR R [v] (P k) g):=by
   unfold made1
   rw [lessR_row]
   rfl
  rw [e,row_bind]
  rfl
 | t+1=>by
  show (match madeN g P q (made1 g P i k u v) t with | none=>none | some R=>lessR R (q t) (P t) g)=_
  rw [madeN_row t,row_bind]
  rfl
def pc0 (F X:List T):Option (List T):=match wmV F X with
 | (Y,true)=>some Y
 | (_,false)=>none
def pcS (s q X:List T):Option (List T):=match wmV q X with
 | (Y,true)=>(match subV s Y with
  | (Z,true)=>some Z
  | (_,false)=>none)
 | (_,false)=>none
def pcN (F:List T) (P0:Nat→List T) (qs:Nat→List T) (Q:Nat→Nat→List T) (j:Nat):Nat→Option (List T)
 | 0=>pc0 F (P0 j)
 | t+1=>(pcN F P0 qs Q j t).bind (fun s=>pcS s (qs t) (Q t j))
theorem pcS_less {s q X:List T} (hs:okL s=true) (hq:okL q=true) (hX:okL X=true):pcS s q X=lessE s q X:=by
 unfold pcS lessE wmV wylMul
 rw [if_pos ⟨hq,hX⟩]
 cases hm:mulM (lf q) (lf X) X.length q.length with
 | none=>rfl
 | some Y=>
  have oY:=wm_ok (wm_mulM hq hX hm)
  show (match subV s Y with | (Z,true)=>some Z | (_,false)=>none)=if (subL s Y).length≤400 then some (subL s Y) else none
  by_cases hl:(subL s Y).length≤400
  ·rw [subV_ok hs oY hl,if_pos hl]
  ·rw [if_neg hl]
   rcases subV_case s Y with e | ⟨_,_,h3,_⟩
   ·rw [e]
   ·exact absurd h3 hl
theorem scL_back {P:List T} (h:Falls P):subL [] (scL 100 P)=P:=by
 have h1:=scL_falls (c:=100) (by omega) (by omega) h
 have h2:=subL_facts falls_nil h1
 refine falls_one h2.1 h (fun m _=>?_)
 have r:=coef_range h m
 rw [h2.2,coef_nil,scL_coef]
 omega
theorem pc0_less {u:T} {X:List T} (hu:u.m.ok=true∧1≤u.c∧u.c≤100) (hX:okL X=true):pc0 [u] X=lessE [] [negT1 u] X:=by
 have ou:=one_ok hu
 have en:negT1 u=scT1 100 u:=by
  unfold negT1 scT1
  congr 1
  omega
 have hm:=mulM_sc (f:=lf [u]) (f2:=lf [negT1 u]) (la:=1) (c:=100) (by omega) (by omega) (good_ok (show polOk 1 (lf [u])=true from ou)).2 (good_ok (show polOk X.length (lf X)=true from hX)).2 (fun i hi=>by
  have e:i=0:=by omega
  subst e
  show negT1 u=scT1 100 u
  exact en) 1 (Nat.le_refl _)
 unfold pc0 lessE wmV wylMul
 rw [if_pos ⟨ou,hX⟩]
 show (match mulO (mulM (lf [u]) (lf X) X.length 1) with | (Y,true)=>some Y | (_,false)=>none)=(match mulM (lf [negT1 u]) (lf X) X.length 1 with | some P=>if (subL [] P).length≤400 then some (subL [] P) else none | none=>none)
 rw [hm]
 cases hk:mulM (lf [u]) (lf X) X.length 1 with
 | none=>rfl
 | some Y=>
  have fY:=mulM_falls2 (good_ok (show polOk 1 (lf [u])=true from ou)).2 (good_ok (show polOk X.length (lf X)=true from hX)).2 1 Y (Nat.le_refl _) hk
  show some Y=if (subL [] (scL 100 Y)).length≤400 then some (subL [] (scL 100 Y)) else none
  rw [scL_back fY,if_pos (mulM_len _ Y hk)]
def othQ (v:T) (q:Nat→List T):Nat→List T
 | 0=>[v]
 | t+1=>q t
def othP (P:Nat→Nat→List T) (k:Nat):Nat→Nat→List T
 | 0=>P k
 | t+1=>P t
theorem col_ok {P:Nat→Nat→List T} {i k m g:Nat} {u v:T} {q:Nat→List T} (hi:i<m) (hk:k<m) (hP:∀ i,i<m→∀ j,j<g→okL (P i j)=true) (hu:okL [negT1 u]=true) (hv:okL [v]=true) (hq:∀ t,t<m→okL (q t)=true) {j:Nat} (hj:j<g):∀ t s,t≤m→colM P i k u v q j t=some s→okL s=true
 | 0,s,_,h=>by
  change (lessE [] [negT1 u] (P i j)).bind (fun s=>lessE s [v] (P k j))=some s at h
  cases h1:lessE [] [negT1 u] (P i j) with
  | none=>rw [h1] at h;cases h
  | some s1=>
   rw [h1] at h
   exact lessE_ok (lessE_ok okL_nil hu (hP i hi j hj) h1) hv (hP k hk j hj) h
 | t+1,s,ht,h=>by
  change (colM P i k u v q j t).bind (fun s=>lessE s (q t) (P t j))=some s at h
  cases h1:colM P i k u v q j t with
  | none=>rw [h1] at h;cases h
  | some s1=>
   rw [h1] at h
   exact lessE_ok (col_ok hi hk hP hu hv hq hj t s1 (by omega) h1) (hq t (by omega)) (hP t (by omega) j hj) h
theorem pcN_col {P:Nat→Nat→List T} {i k m g:Nat} {u v:T} {q:Nat→List T} (hi:i<m) (hk:k<m) (hP:∀ i,i<m→∀ j,j<g→okL (P i j)=true) (hu:u.m.ok=true∧1≤u.c∧u.c≤100) (hv:v.m.ok=true∧1≤v.c∧v.c≤100) (hq:∀ t,t<m→okL (q t)=true) {j:Nat} (hj:j<g):∀ t,t≤m→pcN [u] (P i) (othQ v q) (othP P k) j (t+1)=colM P i k u v q j t
 | 0,_=>by
  have g1:=mod101 hu.2.1 hu.2.2
  have hn:okL [negT1 u]=true:=one_ok ⟨hu.1,g1.1,g1.2⟩
  show (pc0 [u] (P i j)).bind (fun s=>pcS s [v] (P k j))=(lessE [] [negT1 u] (P i j)).bind (fun s=>lessE s [v] (P k j))
  rw [pc0_less hu (hP i hi j hj)]
  cases h1:lessE [] [negT1 u] (P i j) with
  | none=>rfl
  | some s1=>exact pcS_less (lessE_ok okL_nil hn (hP i hi j hj) h1) (one_ok hv) (hP k hk j hj)
 | t+1,ht=>by
  have g1:=mod101 hu.2.1 hu.2.2
  have hn:okL [negT1 u]=true:=one_ok ⟨hu.1,g1.1,g1.2⟩
  show (pcN [u] (P i) (othQ v q) (othP P k) j (t+1)).bind (fun s=>pcS s (q t) (P t j))=(colM P i k u v q j t).bind (fun s=>lessE s (q t) (P t j))
  rw [pcN_col hi hk hP hu hv hq hj t (by omega)]
  cases h1:colM P i k u v q j t with
  | none=>rfl
  | some s1=>exact pcS_less (col_ok hi hk hP hn (one_ok hv) hq hj t s1 (by omega) h1) (hq t (by omega)) (hP t (by omega) j hj)
theorem made_pf {P:Nat→Nat→List T} {i k m g:Nat} {u v:T} {q:Nat→List T} (hi:i<m) (hk:k<m) (hP:∀ i,i<m→∀ j,j<g→okL (P i j)=true) (hu:u.m.ok=true∧1≤u.c∧u.c≤100) (hv:v.m.ok=true∧1≤v.c∧v.c≤100) (hq:∀ t,t<m→okL (q t)=true):rowO (fun j=>pcN [u] (P i) (othQ v q) (othP P k) j (m+1)) g=made g P i k u v m q:=by
 unfold made
 rw [madeN_row]
 exact rowO_congr g fun j hj=>pcN_col hi hk hP hu hv hq hj m (Nat.le_refl _)
end Go.Proofs.YtdidlcjhodejjaaGreat
