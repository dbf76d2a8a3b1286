/- Plain mathematics of layer 14. -/

import Derived.Test.YtjhjdiaomnpkmaaGreatDoorZ11
set_option maxRecDepth 100000
set_option maxHeartbeats 8000000
set_option linter.unusedVariables false
set_option linter.unusedSimpArgs false
namespace Go.Proofs.YtjhjdiaomnpkmaaGreatDoor
open Go.Lib
theorem low_le{c:Cf}(h:numsOk c=true):lowC c≤ceC c:=by
 have:=nums_iff.1 h;unfold lowC;omega
end Go.Proofs.YtjhjdiaomnpkmaaGreatDoor

namespace Go.Proofs.YtjhjdiaomnpkmaaGreatDoor
open Go.RowKit Go.Lib
theorem PairsAt.below{w w':World}{A:Option Addr}{zs:List (Int×Int)}(h:PairsAt w A zs)(hb:Below w.heap.size w w'):PairsAt w' A zs:=by
 intro i hi
 obtain⟨a,e,hl,h0,h1⟩:=h i hi
 have hk:∀j,w'.cell? (a.add j)=w.cell? (a.add j):=fun j=>hb.cell (p:=a.add j) (by rw[block_add];exact hl)
 exact⟨a,e,by have:=hb.size;omega,by rw[hk];exact h0,by rw[hk];exact h1⟩
theorem PairsAt.rel{w w':World}{A:Option Addr}{zs:List (Int×Int)}(h:PairsAt w A zs)(hr:Rel w w'):PairsAt w' A zs:=h.below hr.2
theorem len1{l:List Ex}(h:(1:Int)=(l.length:Int)):∃a,l=[a]:=List.length_eq_one_iff.1 (by omega)
end Go.Proofs.YtjhjdiaomnpkmaaGreatDoor

namespace Go.Proofs.YtjhjdiaomnpkmaaGreatDoor
open Go.Lib
theorem tick_mono{a b:Int}(h:a≤b):tickF a≤tickF b:=by unfold tickF;split<;>split<;>(try split)<;>(try split)<;>omega
theorem later_mono{t m m':Int}(h:m≤m'):laterF t m≤laterF t m':=tick_mono (by have:=tick_mono h;omega)
theorem later_zero{t:Int}(h:0≤t)(h':t≤1099511627776):laterF t 0=t:=by unfold laterF tickF;simp only[Int.reduceLT,if_false];split<;>(try split)<;>(try split)<;>omega
theorem lastR_len(l:List Int):(lastR l).length=min l.length 3:=by unfold lastR;rw[List.length_drop];omega
theorem lastR_snoc(l:List Int)(t:Int):(lastR (l++[t])).getLast?=some t:=by
 unfold lastR
 rw[List.drop_append_of_le_length (by simp only[List.length_append,List.length_singleton];omega)]
 simp
theorem go_parts{c:Cf}{p:Pa15}{t now:Int}(h:goP c p t now=true):withinC c t=true∧rightP p=true∧0≤now∧now≤1099511627776∧readyP c p≤now∧ ¬(withinC c (laP p)=true∧nearP c p t=true)∧t≠laP p:=by
 unfold goP at h
 rw[Bool.and_eq_true,Bool.and_eq_true,Bool.and_eq_true,Bool.and_eq_true] at h
 obtain⟨⟨⟨⟨h1,h2⟩,h3⟩,h4⟩,h5⟩:=h
 have h3:=of_decide_eq_true h3
 refine⟨h1,h2,h3.1,h3.2.1,h3.2.2, ?_,of_decide_eq_true h5⟩
 rintro⟨a,b⟩
 rw[a,b] at h4
 exact absurd h4 (by decide)
theorem next_right{c:Cf}{p:Pa15}{t now:Int}(h:goP c p t now=true):rightP (nextP p t now)=true:=by
 obtain⟨h1,h2,h3,h4,_,_,_⟩:=go_parts h
 have hw:=within_bd h1
 have hr:=right_ring h2
 have hs:=right_swing h2
 have hlen:=lastR_len (riP p++[t])
 rw[List.length_append,List.length_singleton] at hlen
 have hsw:0≤(if swingsP (riP p) t then min (swP p+1) 6 else 0)∧(if swingsP (riP p) t then min (swP p+1) 6 else 0)≤6:=by split<;>omega
 unfold rightP
 rw[if_neg (show ¬laP (nextP p t now)=0 by show ¬t=0;omega),Bool.and_eq_true]
 refine⟨ringOk_mem.2 fun x hx=> ?_,decide_eq_true ⟨h3,h4, ?_, ?_,lastR_snoc _ _,hsw.1,hsw.2⟩⟩
 ·rcases List.mem_append.1 (lastR_mem hx) with hx|hx
  ·exact ringOk_mem.1 hr.1 x hx
  ·rw[List.mem_singleton] at hx;subst hx;omega
 ·show 1≤(lastR (riP p++[t])).length;omega
 ·show(lastR (riP p++[t])).length≤3;omega
theorem later_le{a b n:Int}(h:laterF a b≤n)(hn:n<1099511627776):a+b≤n:=by
 unfold laterF tickF at h
 split at h<;>split at h<;>(try split at h)<;>(try split at h)<;>omega
theorem later_pos{a b:Int}(ha:0≤a)(ha':a≤1099511627776)(hb:0≤b):a≤laterF a b:=by
 have h:laterF a 0≤laterF a b:=later_mono hb
 rw[later_zero ha ha'] at h
 exact h
theorem by_bd(cool:Int)(k:Nat):0≤byP cool k∧byP cool k≤1099511627776:=by
 cases k<;>exact later_bd _ _
theorem by_ge{cool:Int}(h:0≤cool)(h':cool≤1099511627776)(k:Nat):cool≤byP cool k:=by
 induction k with
 |zero=>exact Int.le_of_eq (later_zero h h').symm
 |succ k ih=>
  have hb:=by_bd cool k
  exact Int.le_trans ih (later_pos hb.1 hb.2 hb.1)
def Apart15(c:Cf)(a b:Int×Int):Prop:=coC c≤b.2-a.2∧b.1≠a.1∧bdC c<max (b.1-a.1) (a.1-b.1)
theorem go_apart{c:Cf}{p:Pa15}{t now:Int}(h:goP c p t now=true)(h0:laP p≠0)(hw:withinC c (laP p)=true)(hn:now<1099511627776):Apart15 c (laP p,atP p) (t,now):=by
 obtain⟨h1,h2,h3,h4,h5,h6,h7⟩:=go_parts h
 have hc:=nums_iff.1 (check_zero.1 (within_bd hw).2.2.1).1
 unfold readyP at h5
 rw[if_neg h0] at h5
 have h8:=later_le h5 hn
 have h9:=by_ge (cool:=coC c) (by omega) (by omega) (swK (swP p))
 have hnear: ¬(t-laP p≤bdC c∧laP p-t≤bdC c):=fun e=>h6 ⟨hw,decide_eq_true e⟩
 refine⟨?_,h7, ?_⟩
 ·show coC c≤now-atP p;omega
 ·show bdC c<max (t-laP p) (laP p-t);omega
abbrev PlS:=Int×Pa15×List (Int×Int)
def tarP(c:Cf)(y:Int):Int:=lowC c+pk y (max (ceC c-lowC c+1) 1)
def stepY(c:Cf)(s:PlS)(x:Int×Int):PlS:=
 (s.1+pk x.1 9,decP c s.2.1 (tarP c x.2) (s.1+pk x.1 9),if goP c s.2.1 (tarP c x.2) (s.1+pk x.1 9) then s.2.2++[(tarP c x.2,s.1+pk x.1 9)] else s.2.2)
def playN(c:Cf)(raw:List (Int×Int))(n:Nat):PlS:=(raw.take n).foldl (stepY c) (0,noP,[])
def playP(c:Cf)(raw:List (Int×Int)):PlS:=playN c raw 40
theorem play_next{c:Cf}{raw:List (Int×Int)}{n:Nat}(h:n<raw.length):playN c raw (n+1)=stepY c (playN c raw n) raw[n]:=by
 unfold playN
 rw[List.take_succ_eq_append_getElem h,List.foldl_append]
 rfl
theorem play_full{c:Cf}{raw:List (Int×Int)}{n:Nat}(h:raw.length≤n):playN c raw n=playN c raw raw.length:=by
 unfold playN
 rw[List.take_of_length_le h,List.take_length]
theorem play_min(c:Cf)(raw:List (Int×Int)):playP c raw=playN c raw (min raw.length 40):=by
 unfold playP
 by_cases h:raw.length≤40
 ·rw[play_full h,Nat.min_eq_left h]
 ·rw[Nat.min_eq_right (by omega)]
theorem tar_within{c:Cf}(h:checkC c=0)(y:Int):withinC c (tarP c y)=true:=by
 have hl:=low_le (check_zero.1 h).1
 have hp:=pk_bd y (max (ceC c-lowC c+1) 1) (by omega)
 unfold withinC tarP
 exact decide_eq_true ⟨h,by omega,by omega⟩
theorem lastR_again(l:List Int)(t:Int):lastR (lastR l++[t])=lastR (l++[t]):=by
 unfold lastR
 simp only[List.length_append,List.length_drop,List.length_singleton]
 by_cases h:l.length≤3
 ·rw[show l.length-3=0 by omega,List.drop_zero,show l.length-0+1-3=l.length+1-3 by omega]
 ·rw[List.drop_append_of_le_length (by simp only[List.length_drop];omega),List.drop_append_of_le_length (by omega),List.drop_drop]
  congr 2
  omega
structure PInv (c:Cf) (n:Nat) (s:PlS):Prop where
 now0:0≤s.1
 now1:s.1≤8*n
 right:rightP s.2.1=true
 none:s.2.2=[]→s.2.1=noP
 some:∀h:s.2.2≠[],s.2.2.getLast h=(laP s.2.1,atP s.2.1)∧laP s.2.1≠0
 before:atP s.2.1≤s.1
 within:∀x∈s.2.2,withinC c x.1=true
 apart:∀i (h:i+1<s.2.2.length),Apart15 c s.2.2[i] s.2.2[i+1]
 ring:riP s.2.1=lastR (s.2.2.map (·.1))
 swing:0≤swP s.2.1∧swP s.2.1≤max ((s.2.2.length:Int)-3) 0
 few:s.2.2.length≤n
 any:0<n→s.2.2≠[]
theorem pinv_zero(c:Cf):PInv c 0 (0,noP,[]) where
 now0:=Int.le_refl _
 now1:=by decide
 right:=no_right
 none:=fun _=>rfl
 some:=fun h=>absurd rfl h
 before:=Int.le_refl _
 within:=fun x h=>by cases h
 apart:=fun i h=>absurd h (by simp)
 ring:=rfl
 swing:=⟨Int.le_refl _,by decide⟩
 few:=Nat.le_refl _
 any:=fun h=>absurd h (Nat.lt_irrefl _)
theorem pinv_within{c:Cf}{n:Nat}{s:PlS}(h:PInv c n s)(hl:laP s.2.1≠0):withinC c (laP s.2.1)=true:=by
 by_cases he:s.2.2=[]
 ·have:=h.none he
  rw[this] at hl
  exact absurd rfl hl
 ·have h1:=h.some he
  have h2:=h.within _ (List.getLast_mem he)
  rw[h1.1] at h2
  exact h2
theorem pinv_step{c:Cf}{n:Nat}{s:PlS}(hc:checkC c=0)(hn40:n<40)(h:PInv c n s)(x:Int×Int):PInv c (n+1) (stepY c s x):=by
 obtain⟨now,p,out⟩:=s
 have hk:=pk_bd x.1 9 (by omega)
 have ht:=tar_within hc x.2
 obtain⟨t,hT⟩:∃t,tarP c x.2=t:=⟨_,rfl⟩
 obtain⟨k,hK⟩:∃k,now+pk x.1 9=k:=⟨_,rfl⟩
 have n0:0≤now:=h.now0
 have n1:now≤8*n:=h.now1
 have hk0:0≤k:=by omega
 have hk1:k≤8*((n+1:Nat):Int):=by omega
 have hbef:atP p≤now:=h.before
 unfold stepY
 show PInv c (n+1) (now+pk x.1 9,decP c p (tarP c x.2) (now+pk x.1 9),if goP c p (tarP c x.2) (now+pk x.1 9) then out++[(tarP c x.2,now+pk x.1 9)] else out)
 rw[hT] at ht⊢
 rw[hK]
 have hfew:out.length≤n:=h.few
 by_cases hg:goP c p t k=true
 ·have hd:decP c p t k=nextP p t k:=by unfold decP;rw[if_pos hg]
  rw[if_pos hg,hd]
  have hring:riP p=lastR (out.map (·.1)):=h.ring
  exact {
   now0:=hk0
   now1:=hk1
   right:=next_right hg
   none:=fun e=>absurd e (by simp)
   some:=fun e=>⟨by show(out++[(t,k)]).getLast _=(t,k);simp,by have:=(within_bd ht).1;show t≠0;omega⟩
   before:=Int.le_refl _
   within:=fun y hy=>by
    rcases List.mem_append.1 hy with hy|hy
    ·exact h.within y hy
    ·rw[List.mem_singleton] at hy;subst hy;exact ht
   apart:=fun i hi=>by
    have hi':i+1<(out++[(t,k)]).length:=hi
    rw[List.length_append,List.length_singleton] at hi'
    by_cases hlt:i+1<out.length
    ·have e0:(out++[(t,k)])[i]'(by rw[List.length_append];omega)=out[i]:=List.getElem_append_left (by omega)
     have e1:(out++[(t,k)])[i+1]'(by rw[List.length_append];omega)=out[i+1]:=List.getElem_append_left hlt
     show Apart15 c ((out++[(t,k)])[i]'_) ((out++[(t,k)])[i+1]'_)
     rw[e0,e1]
     exact h.apart i hlt
    ·have hne:out≠[]:=fun e=>by rw[e] at hi';simp at hi'
     have e0:(out++[(t,k)])[i]'(by rw[List.length_append];omega)=out.getLast hne:=by
      rw[List.getElem_append_left (by omega),List.getLast_eq_getElem]
      congr 1
      omega
     have e1:(out++[(t,k)])[i+1]'(by rw[List.length_append];simp;omega)=(t,k):=by
      rw[List.getElem_append_right (by omega)]
      simp
     show Apart15 c ((out++[(t,k)])[i]'_) ((out++[(t,k)])[i+1]'_)
     have hs:=h.some hne
     have hs1:out.getLast hne=(laP p,atP p):=hs.1
     rw[e0,e1,hs1]
     exact go_apart hg hs.2 (pinv_within h hs.2) (by omega)
   ring:=by
    show lastR (riP p++[t])=lastR ((out++[(t,k)]).map (·.1))
    rw[hring,lastR_again,List.map_append,List.map_singleton]
   swing:=by
    have hsw:0≤swP p∧swP p≤max ((out.length:Int)-3) 0:=h.swing
    show 0≤(if swingsP (riP p) t then min (swP p+1) 6 else 0)∧(if swingsP (riP p) t then min (swP p+1) 6 else 0)≤max (((out++[(t,k)]).length:Int)-3) 0
    rw[List.length_append,List.length_singleton]
    by_cases hs:swingsP (riP p) t=true
    ·have h3:=swings_len hs
     rw[hring,lastR_len,List.length_map] at h3
     rw[if_pos hs]
     omega
    ·rw[if_neg hs];omega
   few:=by show(out++[(t,k)]).length≤n+1;rw[List.length_append,List.length_singleton];omega
   any:=fun _=>by show out++[(t,k)]≠[];simp}
 ·have hd:decP c p t k=p:=by unfold decP;rw[if_neg hg]
  rw[if_neg hg,hd]
  exact {
   now0:=hk0
   now1:=hk1
   right:=h.right
   none:=h.none
   some:=h.some
   before:=by show atP p≤k;omega
   within:=h.within
   apart:=h.apart
   ring:=h.ring
   swing:=h.swing
   few:=by show out.length≤n+1;omega
   any:=fun _ e=>by
    have hp:p=noP:=h.none e
    rw[hp] at hg
    exact hg (go_first ht hk0 (by omega))}
theorem pinv_play{c:Cf}(hc:checkC c=0)(raw:List (Int×Int)):∀n,n≤40→n≤raw.length→PInv c n (playN c raw n):=by
 intro n
 induction n with
 |zero=>intro _ _;exact pinv_zero c
 |succ n ih=>
  intro h1 h2
  rw[play_next (by omega)]
  exact pinv_step hc (by omega) (ih (by omega) (by omega)) _
theorem pinv_all{c:Cf}(hc:checkC c=0)(raw:List (Int×Int)):PInv c (min raw.length 40) (playP c raw):=by
 rw[play_min]
 exact pinv_play hc raw _ (by omega) (by omega)
end Go.Proofs.YtjhjdiaomnpkmaaGreatDoor
