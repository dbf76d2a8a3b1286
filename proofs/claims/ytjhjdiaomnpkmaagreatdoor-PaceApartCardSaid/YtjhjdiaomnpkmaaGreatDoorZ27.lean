/- Plain mathematics of layer 15. -/

import Derived.Test.YtjhjdiaomnpkmaaGreatDoorZ24
set_option maxRecDepth 100000
set_option maxHeartbeats 8000000
set_option linter.unusedVariables false
set_option linter.unusedSimpArgs false
namespace Go.Proofs.YtjhjdiaomnpkmaaGreatDoor
open Go.Lib
theorem play_ticks(c:Cf)(raw:List (Int×Int)):∀n,n≤raw.length→(0≤(playN c raw n).1∧(playN c raw n).1≤8*n)∧∀x∈(playN c raw n).2.2,0≤x.2∧x.2≤(playN c raw n).1:=by
 intro n
 induction n with
 |zero=>intro _;exact⟨⟨Int.le_refl _,by show(0:Int)≤8*((0:Nat):Int);omega⟩,fun x h=>by cases h⟩
 |succ n ih=>
  intro h
  obtain⟨⟨h1,h2⟩,h3⟩:=ih (by omega)
  rw[play_next (by omega)]
  have hk:=pk_bd raw[n].1 9 (by omega)
  obtain⟨s,hs⟩:∃s,playN c raw n=s:=⟨_,rfl⟩
  rw[hs] at h1 h2 h3⊢
  have e1:(stepY c s raw[n]).1=s.1+pk raw[n].1 9:=rfl
  have e2:(stepY c s raw[n]).2.2=if goP c s.2.1 (tarP c raw[n].2) (s.1+pk raw[n].1 9) then s.2.2++[(tarP c raw[n].2,s.1+pk raw[n].1 9)] else s.2.2:=rfl
  rw[e1,e2]
  refine⟨by omega,fun x hx=> ?_⟩
  split at hx
  ·rcases List.mem_append.1 hx with hx|hx
   ·have:=h3 x hx;omega
   ·rw[List.mem_singleton] at hx;subst hx
    show 0≤s.1+pk raw[n].1 9∧_;omega
  ·have:=h3 x hx;omega
theorem playP_ticks(c:Cf)(raw:List (Int×Int)):∀x∈(playP c raw).2.2,0≤x.2∧x.2≤320:=by
 intro x hx
 rw[play_min] at hx
 have h:=play_ticks c raw (min raw.length 40) (by omega)
 have:=h.2 x hx
 omega
end Go.Proofs.YtjhjdiaomnpkmaaGreatDoor
