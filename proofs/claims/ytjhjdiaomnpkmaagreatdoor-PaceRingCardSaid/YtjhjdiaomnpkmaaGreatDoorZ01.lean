/- Plain mathematics of layer 7. -/

import Derived.Test.YtjhjdiaomnpkmaaGreatDoorZ00
set_option maxRecDepth 100000
set_option maxHeartbeats 8000000
set_option linter.unusedVariables false
set_option linter.unusedSimpArgs false
namespace Go.Proofs.YtjhjdiaomnpkmaaGreatDoor
open Go.Lib
def Sc(a:List UInt8)(n:Nat):Prop:=∀p r,stops r=true→∃ts,lx p (a++r)=pre ts (lx (p+a.length) r)∧n≤ts.length
theorem Sc.append{a b:List UInt8}{n m:Nat}(ha:Sc a n)(hb:Sc b m)(hs:∀r,stops r=true→stops (b++r)=true):Sc (a++b) (n+m):=by
 intro p r hr
 obtain⟨ts,e,h⟩:=ha p (b++r) (hs r hr)
 obtain⟨us,e',h'⟩:=hb (p+a.length) r hr
 refine⟨ts++us, ?_,by rw[List.length_append];omega⟩
 rw[List.append_assoc,e,e',pre_pre,List.length_append,Nat.add_assoc]
theorem Sc.nil:Sc [] 0:=fun p r _=>⟨[],by rw[pre_nil];rfl,Nat.zero_le _⟩
theorem Sc.good{x:List UInt8}{k n:Int}(h:Good x k n):Sc x 1:=fun p r hr=>⟨_,lx_good h p r hr,Nat.le_refl _⟩
theorem Sc.comma{a:List UInt8}{n:Nat}(h:Sc a n):Sc ([44,32]++a) n:=by
 intro p r hr
 obtain⟨ts,e,h⟩:=h (p+1+1) r hr
 refine⟨(4,[44],0,(p:Int))::ts, ?_,by simp;omega⟩
 have e1:=lx_sign p 44 (32::(a++r)) (by decide) (by decide)
 have e2:=lx_blank (p+1) 32 (a++r) (by decide)
 show lx p (44::32::(a++r))=_
 rw[e1,e2,e,pre_pre]
 simp only[List.length_append,List.length_cons,List.length_nil,List.cons_append,List.nil_append]
 rw[show p+(a.length+1+1)=p+1+1+a.length by omega]
theorem Sc.sign{c:UInt8}{a:List UInt8}{n:Nat}(hc:isSg c=true)(h:∀p r,stops r=true→∃ts,lx p (a++r)=pre ts (lx (p+a.length) r)∧n≤ts.length):Sc ([c]++a) n:=by
 intro p r hr
 obtain⟨ts,e,h⟩:=h (p+1) r hr
 refine⟨(4,[c],0,(p:Int))::ts, ?_,by simp;omega⟩
 have e1:=lx_sign p c (a++r) (sg_not hc).1 hc
 show lx p (c::(a++r))=_
 rw[e1,e,pre_pre]
 simp only[List.length_append,List.length_cons,List.length_nil,List.cons_append,List.nil_append]
 rw[show p+(a.length+1)=p+1+a.length by omega]
theorem Sc.mores{l:List Ex}(h:∀x∈l,Sc (text x) (size x)):Sc (mores l) (sizes l):=by
 induction l with
 |nil=>rw[mores_nil,sizes_nil];exact Sc.nil
 |cons x t ih=>
  rw[mores_cons,sizes_cons]
  exact Sc.comma (Sc.append (h x (List.mem_cons_self ..)) (ih fun y hy=>h y (List.mem_cons_of_mem _ hy)) fun r hr=>mores_stops t hr)
theorem Sc.texts{l:List Ex}(h:∀x∈l,Sc (text x) (size x)):Sc (texts l) (sizes l):=by
 cases l with
 |nil=>rw[texts_nil,sizes_nil];exact Sc.nil
 |cons x t=>
  rw[texts_cons,sizes_cons]
  exact Sc.append (h x (List.mem_cons_self ..)) (Sc.mores fun y hy=>h y (List.mem_cons_of_mem _ hy)) fun r hr=>mores_stops t hr
theorem sc_tail{k n:Int}{nm:List UInt8}(hn:0≤n∧n≤mostN k)(hm:k=3→isName nm=true):Sc (tailK k n nm) 0:=by
 obtain⟨b1,b2,b3⟩:=most_le k
 have wk:∀{a:List UInt8}{n:Nat},Sc a n→Sc a 0:=fun h p r hr=>by
  obtain⟨ts,e,_⟩:=h p r hr
  exact⟨ts,e,Nat.zero_le _⟩
 unfold tailK
 split
 ·rename_i e;exact wk (Sc.good (name_good (hm e)))
 ·split
  ·exact wk (Sc.comma (Sc.good (txt_good hn.1 (by omega))))
  ·split
   ·rename_i e;have:=b2 (.inl e);exact wk (Sc.comma (Sc.good (itoa_good hn.1 (by omega))))
   ·split
    ·rename_i e;have:=b2 (.inr e);exact wk (Sc.good (itoa_good hn.1 (by omega)))
    ·exact Sc.nil
theorem text_scans:∀(x:Ex)(d:Nat),fine d x=true→Sc (text x) (size x):=ex_ind fun k n nm l ih d hx=>by
 obtain⟨d,rfl⟩:∃e,d=e+1:=by
  cases d with
  |zero=>cases hx
  |succ d=>exact⟨d,rfl⟩
 obtain⟨a1,a2,a3,a4,a5⟩:=fine_parts hx
 have m1:=most_le k
 have lnil:argsN k=0→l=[]:=fun e2=>List.length_eq_zero_iff.1 (by omega)
 rw[text_mk,size_mk]
 by_cases k4:k=4
 ·subst k4
  rw[if_pos rfl,lnil (by decide),sizes_nil]
  exact Sc.good (txt_good a2.1 (by omega))
 ·obtain⟨g,_,_⟩:=word_kind (by omega:0≤argsN k) k4
  rw[if_neg k4]
  by_cases k12:k=1∨k=2
  ·rw[if_pos k12,lnil (by rcases k12 with rfl|rfl<;>decide),sizes_nil]
   exact Sc.good g
  ·rw[if_neg k12]
   refine Sc.append (Sc.good g) (Sc.sign (by decide) ?_) (fun r _=>stops_cons (c:=40) (by decide))
   have h1:Sc (texts l) (sizes l):=Sc.texts fun y hy=>ih y hy d (fine_mem hx hy)
   have h2:Sc (tailK k n nm++[41]) 0:=Sc.append (n:=0) (m:=0) (sc_tail a2 a4) (by
    have:=Sc.sign (c:=41) (a:=[]) (n:=0) (by decide) (fun p r hr=>⟨[],by rw[pre_nil];rfl,Nat.zero_le _⟩)
    exact this) (fun r _=>stops_cons (c:=41) (by decide))
   by_cases hl:l=[]
   ·subst hl
    rw[texts_nil,sizes_nil,List.nil_append];exact h2
   ·have hk3:k≠3:=fun e=>hl (lnil (by rw[e];decide))
    have hk11:k≠11:=fun e=>hl (lnil (by rw[e];decide))
    have:=Sc.append h1 h2 fun r _=>by
     have:=tail_stops k n nm r hk3 hk11
     rwa [List.append_assoc]
    exact this
theorem txt_len(n:Int):(txt n).length≤43:=by
 unfold txt
 split
 ·rename_i h
  have hb:=rt_iff.1 h
  have h1:(pos n.natAbs).length≤42:=by
   unfold pos
   have a1:=dd_len 14 (n.natAbs/100) (by have:n.natAbs≤1000000000000:=by omega
                                         have e:(10:Nat)^14=100000000000000:=by decide
                                         omega) (by omega)
   have a2:=dd_len 1 (n.natAbs/10%10) (by omega) (by omega)
   have a3:=dd_len 1 (n.natAbs%10) (by omega) (by omega)
   simp only[List.length_append,List.length_cons,List.length_nil]
   omega
  split
  ·simp;omega
  ·omega
 ·simp
theorem itoa_len{n:Int}(h:0≤n)(h':n≤1000000000000):(itoa n).length≤14:=by
 rw[itoa_pos h]
 exact dd_len 14 n.toNat (by have e:(10:Nat)^14=100000000000000:=by decide
                             omega) (by omega)
theorem mores_len{l:List Ex}(h:∀x∈l,(text x).length≤60*size x):(mores l).length≤60*sizes l+2*l.length:=by
 induction l with
 |nil=>rw[mores_nil];simp
 |cons x t ih=>
  have h1:=h x (List.mem_cons_self ..)
  have h2:=ih fun y hy=>h y (List.mem_cons_of_mem _ hy)
  rw[mores_cons,sizes_cons]
  simp only[List.length_append,List.length_cons,List.length_nil]
  omega
theorem texts_len{l:List Ex}(h:∀x∈l,(text x).length≤60*size x):(texts l).length≤60*sizes l+2*l.length:=by
 cases l with
 |nil=>rw[texts_nil];simp
 |cons x t=>
  have h1:=h x (List.mem_cons_self ..)
  have h2:=mores_len fun y hy=>h y (List.mem_cons_of_mem _ hy)
  rw[texts_cons,sizes_cons]
  simp only[List.length_append,List.length_cons]
  omega
theorem args_le(k:Int):argsN k≤3:=by
 unfold argsN
 split
 ·omega
 ·split
  ·omega
  ·split
   ·omega
   ·split<;>omega
theorem tail_len{k n:Int}{nm:List UInt8}(hn:0≤n∧n≤mostN k)(hm:k=3→isName nm=true):(tailK k n nm).length≤45:=by
 obtain⟨b1,b2,b3⟩:=most_le k
 unfold tailK
 split
 ·rename_i e;have:=(name_parts (hm e)).2.2.1;omega
 ·split
  ·have:=txt_len n;simp;omega
  ·split
   ·have:=itoa_len hn.1 (by omega:n≤1000000000000);simp;omega
   ·split
    ·have:=itoa_len hn.1 (by omega:n≤1000000000000);omega
    ·simp
theorem text_len:∀(x:Ex)(d:Nat),fine d x=true→(text x).length≤60*size x:=ex_ind fun k n nm l ih d hx=>by
 obtain⟨d,rfl⟩:∃e,d=e+1:=by
  cases d with
  |zero=>cases hx
  |succ d=>exact⟨d,rfl⟩
 obtain⟨a1,a2,a3,a4,a5⟩:=fine_parts hx
 have h1:=texts_len (l:=l) fun y hy=>ih y hy d (fine_mem hx hy)
 have h2:=tail_len a2 a4
 have h3:=args_le k
 have h4:=txt_len n
 rw[text_mk,size_mk]
 split
 ·omega
 ·rename_i k4
  obtain⟨_,_,g⟩:=word_kind (by omega:0≤argsN k) k4
  split
  ·omega
  ·simp only[List.length_append,List.length_cons,List.length_nil]
   omega
theorem text_more:∀(x:Ex)(d:Nat),fine d x=true→size x≤(text x).length:=ex_ind fun k n nm l ih d hx=>by
 obtain⟨d,rfl⟩:∃e,d=e+1:=by
  cases d with
  |zero=>cases hx
  |succ d=>exact⟨d,rfl⟩
 obtain⟨a1,a2,a3,a4,a5⟩:=fine_parts hx
 have lnil:argsN k=0→l=[]:=fun e2=>List.length_eq_zero_iff.1 (by omega)
 have hm:∀l:List Ex,(∀x∈l,size x≤(text x).length)→sizes l≤(mores l).length:=by
  intro l
  induction l with
  |nil=>intro _;rw[sizes_nil];omega
  |cons x t ih2=>
   intro h
   have h1:=h x (List.mem_cons_self ..)
   have h2:=ih2 fun y hy=>h y (List.mem_cons_of_mem _ hy)
   rw[mores_cons,sizes_cons]
   simp only[List.length_append,List.length_cons,List.length_nil]
   omega
 have ht:sizes l≤(texts l).length:=by
  cases l with
  |nil=>rw[sizes_nil];omega
  |cons x t=>
   have h1:=ih x (List.mem_cons_self ..) d (fine_mem hx (List.mem_cons_self ..))
   have h2:=hm t fun y hy=>ih y (List.mem_cons_of_mem _ hy) d (fine_mem hx (List.mem_cons_of_mem _ hy))
   rw[texts_cons,sizes_cons]
   simp only[List.length_append]
   omega
 have m1:=most_le k
 rw[text_mk,size_mk]
 split
 ·rename_i k4
  subst k4
  rw[lnil (by decide),sizes_nil]
  obtain⟨c,t,e,_⟩:=txt_head a2.1 (by omega:n≤1000000000000)
  rw[e];simp
 ·rename_i k4
  obtain⟨_,⟨c,t,e,_⟩,_⟩:=word_kind (by omega:0≤argsN k) k4
  split
  ·rename_i k12
   rw[lnil (by rcases k12 with rfl|rfl<;>decide),sizes_nil,e];simp
  ·rw[e]
   simp only[List.length_append,List.length_cons,List.length_nil]
   omega
def hdT(ts:List Tok):Tok:=ts.headD (5,[],0,0)
def atT(ts:List Tok):Int:=(hdT ts).2.2.2
abbrev Told(α:Type):=Except (Int×Int) (α×List Tok)
def takeT(k:Int)(x:List UInt8)(ts:List Tok):Told Tok:=
 if (hdT ts).1=k∧(x=[]∨(hdT ts).2.1=x) then .ok (hdT ts,if k=5 then ts else ts.tail) else .error (80,atT ts)
def kindW(c:Bool)(x:List UInt8):Int:=(([1,2,3,4,5,6,7,8,9,10,11,12]:List Int).find? fun k=>wordK k==x&&isCond k==c).getD 0
def kindT(c:Bool)(t:Tok):Int:=
 if t.1=3∧c=false then 4
 else if t.1=1 then kindW c t.2.1
 else 0
def argsT(f:Bool→List Tok→Told Ex)(k:Int):Nat→Nat→List Tok→Told (List Ex)
 |_,0,ts=> .ok ([],ts)
 |i,m+1,ts=>
  match (if i=0 then .ok ((5,[],0,0),ts) else takeT 4 [44] ts) with
  | .error e=> .error e
  | .ok (_,ts)=>
    match f (decide (k=10)&&decide (i=0)) ts with
    | .error e=> .error e
    | .ok (x,ts)=>
      match argsT f k (i+1) m ts with
      | .error e=> .error e
      | .ok (l,ts)=> .ok (x::l,ts)
def restT(k:Int)(ts:List Tok):Told (Int×List UInt8):=
 if k=3 then
  if isName (hdT ts).2.1 then (match takeT 1 [] ts with| .error e=> .error e| .ok (t,ts)=> .ok ((0,t.2.1),ts)) else .error (80,atT ts)
 else if k=5 then
  match takeT 4 [44] ts with
  | .error e=> .error e
  | .ok (_,ts)=>(match takeT 3 [] ts with| .error e=> .error e| .ok (t,ts)=> .ok ((t.2.2.1,[]),ts))
 else if k=6 then
  match takeT 4 [44] ts with
  | .error e=> .error e
  | .ok (_,ts)=>(match takeT 2 [] ts with| .error e=> .error e| .ok (t,ts)=> .ok ((t.2.2.1,[]),ts))
 else if k=11 then
  if (hdT ts).2.2.1≤1000 then (match takeT 2 [] ts with| .error e=> .error e| .ok (t,ts)=> .ok ((t.2.2.1,[]),ts)) else .error (80,atT ts)
 else .ok ((0,[]),ts)
def callT(f:Bool→List Tok→Told Ex)(k:Int)(ts:List Tok):Told Ex:=
 match takeT 4 [40] ts with
 | .error e=> .error e
 | .ok (_,ts)=>
   match argsT f k 0 (argsN k).toNat ts with
   | .error e=> .error e
   | .ok (l,ts)=>
     match restT k ts with
     | .error e=> .error e
     | .ok ((n,nm),ts)=>
       match takeT 4 [41] ts with
       | .error e=> .error e
       | .ok (_,ts)=> .ok (.mk k n nm l,ts)
def exprT:Nat→Bool→List Tok→Told Ex
 |0,_,ts=> .error (81,atT ts)
 |d+1,c,ts=>
  if kindT c (hdT ts)=0 then .error (80,atT ts)
  else if kindT c (hdT ts)=4 then .ok (.mk 4 (hdT ts).2.2.1 [] [],ts.tail)
  else if kindT c (hdT ts)=1∨kindT c (hdT ts)=2 then .ok (.mk (kindT c (hdT ts)) 0 [] [],ts.tail)
  else callT (exprT d) (kindT c (hdT ts)) ts.tail
theorem exprT_deep(c:Bool)(ts:List Tok):exprT 0 c ts= .error (81,atT ts):=rfl
theorem exprT_none{d:Nat}{c:Bool}{ts:List Tok}(h:kindT c (hdT ts)=0):exprT (d+1) c ts= .error (80,atT ts):=by rw[exprT,if_pos h]
theorem exprT_money{d:Nat}{c:Bool}{ts:List Tok}(h:kindT c (hdT ts)=4):exprT (d+1) c ts= .ok (.mk 4 (hdT ts).2.2.1 [] [],ts.tail):=by rw[exprT,if_neg (by omega),if_pos h]
theorem exprT_leaf{d:Nat}{c:Bool}{ts:List Tok}{k:Int}(h:kindT c (hdT ts)=k)(hk:k=1∨k=2):exprT (d+1) c ts= .ok (.mk k 0 [] [],ts.tail):=by
 subst h;rw[exprT,if_neg (by omega),if_neg (by omega),if_pos hk]
theorem exprT_call{d:Nat}{c:Bool}{ts:List Tok}{k:Int}(h:kindT c (hdT ts)=k)(h0:k≠0)(h4:k≠4)(h1: ¬(k=1∨k=2)):exprT (d+1) c ts=callT (exprT d) k ts.tail:=by
 subst h;rw[exprT,if_neg h0,if_neg h4,if_neg h1]
def stratT(ts:List Tok):Except (Int×Int) Ex:=
 match exprT 32 false ts with
 | .error e=> .error e
 | .ok (x,ts)=>(match takeT 5 [] ts with| .error e=> .error e| .ok _=> .ok x)
def parseS(s:List UInt8):Except (Int×Int) Ex:=
 if 2000<s.length then .error (60,2000) else match lx 0 s with| .error p=> .error (61,(p:Int))| .ok ts=>stratT ts
abbrev Sh:=Int×List UInt8×Int
def sh(t:Tok):Sh:=(t.1,t.2.1,t.2.2.1)
def sg(c:UInt8):Sh:=(4,[c],0)
def tailS(k n:Int)(nm:List UInt8):List Sh:=if k=3 then [(1,nm,0)] else if k=5 then [sg 44,(3,txt n,n)] else if k=6 then [sg 44,(2,itoa n,n)] else if k=11 then [(2,itoa n,n)] else []
mutual
def toks:Ex→List Sh
 | .mk k n nm l=>if k=4 then [(3,txt n,n)] else if k=1∨k=2 then [(1,wordK k,0)] else (1,wordK k,0)::sg 40::(tokss l++(tailS k n nm++[sg 41]))
def tokss:List Ex→List Sh
 |[]=>[]
 |x::t=>toks x++tokms t
def tokms:List Ex→List Sh
 |[]=>[]
 |x::t=>sg 44::(toks x++tokms t)
end
theorem toks_mk(k n:Int)(nm:List UInt8)(l:List Ex):toks (.mk k n nm l)=if k=4 then [(3,txt n,n)] else if k=1∨k=2 then [(1,wordK k,0)] else (1,wordK k,0)::sg 40::(tokss l++(tailS k n nm++[sg 41])):=by rw[toks]
theorem tokss_nil:tokss []=[]:=by rw[tokss]
theorem tokss_cons(x:Ex)(t:List Ex):tokss (x::t)=toks x++tokms t:=by rw[tokss]
theorem tokms_nil:tokms []=[]:=by rw[tokms]
theorem tokms_cons(x:Ex)(t:List Ex):tokms (x::t)=sg 44::(toks x++tokms t):=by rw[tokms]
def Sx(a:List UInt8)(S:List Sh):Prop:=∀p r,stops r=true→∃ts,lx p (a++r)=pre ts (lx (p+a.length) r)∧ts.map sh=S
theorem Sx.append{a b:List UInt8}{n m:List Sh}(ha:Sx a n)(hb:Sx b m)(hs:∀r,stops r=true→stops (b++r)=true):Sx (a++b) (n++m):=by
 intro p r hr
 obtain⟨ts,e,h⟩:=ha p (b++r) (hs r hr)
 obtain⟨us,e',h'⟩:=hb (p+a.length) r hr
 refine⟨ts++us, ?_,by rw[List.map_append,h,h']⟩
 rw[List.append_assoc,e,e',pre_pre,List.length_append,Nat.add_assoc]
theorem Sx.nil:Sx [] []:=fun p r _=>⟨[],by rw[pre_nil];rfl,rfl⟩
theorem Sx.good{x:List UInt8}{k n:Int}(h:Good x k n):Sx x [(k,x,n)]:=fun p r hr=>⟨_,lx_good h p r hr,rfl⟩
theorem Sx.comma{a:List UInt8}{n:List Sh}(h:Sx a n):Sx ([44,32]++a) (sg 44::n):=by
 intro p r hr
 obtain⟨ts,e,h⟩:=h (p+1+1) r hr
 refine⟨(4,[44],0,(p:Int))::ts, ?_,by rw[List.map_cons,h];rfl⟩
 have e1:=lx_sign p 44 (32::(a++r)) (by decide) (by decide)
 have e2:=lx_blank (p+1) 32 (a++r) (by decide)
 show lx p (44::32::(a++r))=_
 rw[e1,e2,e,pre_pre]
 simp only[List.length_append,List.length_cons,List.length_nil,List.cons_append,List.nil_append]
 rw[show p+(a.length+1+1)=p+1+1+a.length by omega]
theorem Sx.sign{c:UInt8}{a:List UInt8}{n:List Sh}(hc:isSg c=true)(h:Sx a n):Sx ([c]++a) (sg c::n):=by
 intro p r hr
 obtain⟨ts,e,h⟩:=h (p+1) r hr
 refine⟨(4,[c],0,(p:Int))::ts, ?_,by rw[List.map_cons,h];rfl⟩
 have e1:=lx_sign p c (a++r) (sg_not hc).1 hc
 show lx p (c::(a++r))=_
 rw[e1,e,pre_pre]
 simp only[List.length_append,List.length_cons,List.length_nil,List.cons_append,List.nil_append]
 rw[show p+(a.length+1)=p+1+a.length by omega]
theorem Sx.mores{l:List Ex}(h:∀x∈l,Sx (text x) (toks x)):Sx (mores l) (tokms l):=by
 induction l with
 |nil=>rw[mores_nil,tokms_nil];exact Sx.nil
 |cons x t ih=>
  rw[mores_cons,tokms_cons]
  exact Sx.comma (Sx.append (h x (List.mem_cons_self ..)) (ih fun y hy=>h y (List.mem_cons_of_mem _ hy)) fun r hr=>mores_stops t hr)
theorem Sx.texts{l:List Ex}(h:∀x∈l,Sx (text x) (toks x)):Sx (texts l) (tokss l):=by
 cases l with
 |nil=>rw[texts_nil,tokss_nil];exact Sx.nil
 |cons x t=>
  rw[texts_cons,tokss_cons]
  exact Sx.append (h x (List.mem_cons_self ..)) (Sx.mores fun y hy=>h y (List.mem_cons_of_mem _ hy)) fun r hr=>mores_stops t hr
theorem sx_tail{k n:Int}{nm:List UInt8}(hn:0≤n∧n≤mostN k)(hm:k=3→isName nm=true):Sx (tailK k n nm) (tailS k n nm):=by
 obtain⟨b1,b2,b3⟩:=most_le k
 unfold tailK tailS
 split
 ·rename_i e;exact Sx.good (name_good (hm e))
 ·split
  ·exact Sx.comma (Sx.good (txt_good hn.1 (by omega)))
  ·split
   ·rename_i e;have:=b2 (.inl e);exact Sx.comma (Sx.good (itoa_good hn.1 (by omega)))
   ·split
    ·rename_i e;have:=b2 (.inr e);exact Sx.good (itoa_good hn.1 (by omega))
    ·exact Sx.nil
theorem text_toks:∀(x:Ex)(d:Nat),fine d x=true→Sx (text x) (toks x):=ex_ind fun k n nm l ih d hx=>by
 obtain⟨d,rfl⟩:∃e,d=e+1:=by
  cases d with
  |zero=>cases hx
  |succ d=>exact⟨d,rfl⟩
 obtain⟨a1,a2,a3,a4,a5⟩:=fine_parts hx
 have m1:=most_le k
 have lnil:argsN k=0→l=[]:=fun e2=>List.length_eq_zero_iff.1 (by omega)
 rw[text_mk,toks_mk]
 by_cases k4:k=4
 ·subst k4
  rw[if_pos rfl,if_pos rfl]
  exact Sx.good (txt_good a2.1 (by omega))
 ·obtain⟨g,_,_⟩:=word_kind (by omega:0≤argsN k) k4
  rw[if_neg k4,if_neg k4]
  by_cases k12:k=1∨k=2
  ·rw[if_pos k12,if_pos k12]
   exact Sx.good g
  ·rw[if_neg k12,if_neg k12]
   refine Sx.append (n:=[(1,wordK k,0)]) (Sx.good g) (Sx.sign (by decide) ?_) (fun r _=>stops_cons (c:=40) (by decide))
   have h1:Sx (texts l) (tokss l):=Sx.texts fun y hy=>ih y hy d (fine_mem hx hy)
   have h2:Sx (tailK k n nm++[41]) (tailS k n nm++[sg 41]):=Sx.append (sx_tail a2 a4) (by
    have:=Sx.sign (c:=41) (a:=[]) (n:=[]) (by decide) Sx.nil
    exact this) (fun r _=>stops_cons (c:=41) (by decide))
   by_cases hl:l=[]
   ·subst hl
    rw[texts_nil,tokss_nil,List.nil_append];exact h2
   ·have hk3:k≠3:=fun e=>hl (lnil (by rw[e];decide))
    have hk11:k≠11:=fun e=>hl (lnil (by rw[e];decide))
    exact Sx.append h1 h2 fun r _=>by
     have:=tail_stops k n nm r hk3 hk11
     rwa [List.append_assoc]
theorem fine_lex{x:Ex}{d:Nat}(h:fine d x=true):∃ts,lx 0 (text x)= .ok (ts++[(5,[],0,((text x).length:Int))])∧ts.map sh=toks x:=by
 obtain⟨ts,e,hl⟩:=text_toks x d h 0 [] rfl
 rw[List.append_nil,lx_nil] at e
 exact⟨ts,by rw[e];simp[pre],hl⟩
theorem kindW_word{k:Int}(h1:1≤k)(h2:k≤12)(h4:k≠4):kindW (isCond k) (wordK k)=k:=by
 have:k=1∨k=2∨k=3∨k=5∨k=6∨k=7∨k=8∨k=9∨k=10∨k=11∨k=12:=by omega
 rcases this with rfl|rfl|rfl|rfl|rfl|rfl|rfl|rfl|rfl|rfl|rfl<;>decide
theorem kind_word{k:Int}(h1:1≤k)(h2:k≤12)(h4:k≠4)(n p:Int):kindT (isCond k) (1,wordK k,n,p)=k:=by
 unfold kindT
 rw[if_neg (by simp),if_pos rfl]
 exact kindW_word h1 h2 h4
theorem kind_money(x:List UInt8)(n p:Int):kindT false (3,x,n,p)=4:=by unfold kindT;rw[if_pos ⟨rfl,rfl⟩]
theorem sh_eq{t:Tok}{k n:Int}{x:List UInt8}(h:sh t=(k,x,n)):t=(k,x,n,t.2.2.2):=by
 obtain⟨a,b,c,d⟩:=t
 simp only[sh,Prod.mk.injEq] at h
 obtain⟨rfl,rfl,rfl⟩:=h;rfl
theorem map_cons'{ts:List Tok}{s:Sh}{S:List Sh}(h:ts.map sh=s::S):∃p us,ts=(s.1,s.2.1,s.2.2,p)::us∧us.map sh=S:=by
 cases ts with
 |nil=>cases h
 |cons t us=>
  rw[List.map_cons,List.cons.injEq] at h
  exact⟨t.2.2.2,us,by rw[sh_eq (k:=s.1) (x:=s.2.1) (n:=s.2.2) h.1],h.2⟩
theorem map_app{ts:List Tok}{S S':List Sh}(h:ts.map sh=S++S'):∃a b,ts=a++b∧a.map sh=S∧b.map sh=S':=List.map_eq_append_iff.1 h
theorem take_sign(c:UInt8)(n p:Int)(r:List Tok):takeT 4 [c] ((4,[c],n,p)::r)= .ok ((4,[c],n,p),r):=by
 unfold takeT hdT;simp
theorem take_any{k:Int}(hk:k≠5)(x:List UInt8)(n p:Int)(r:List Tok):takeT k [] ((k,x,n,p)::r)= .ok ((k,x,n,p),r):=by
 unfold takeT hdT;simp[hk]
theorem args_ok(f:Bool→List Tok→Told Ex)(k:Int):∀(l:List Ex)(i:Nat)(ts r:List Tok),(∀j (h:j<l.length) (a b:List Tok),a.map sh=toks l[j]→f (decide (k=10)&&decide (i+j=0)) (a++b)= .ok (l[j],b))→
  ts.map sh=(if i=0 then tokss l else tokms l)→argsT f k i l.length (ts++r)= .ok (l,r):=by
 intro l
 induction l with
 |nil=>
  intro i ts r _ h
  have:ts=[]:=by
   have:ts.map sh=[]:=by rw[h];split<;>rfl
   simpa using this
  subst this
  rfl
 |cons x t ih=>
  intro i ts r hf h
  have h0:=hf 0 (by simp)
  have hr:=ih (i+1)
  have hrest:∀us:List Tok,us.map sh=tokms t→argsT f k (i+1) t.length (us++r)= .ok (t,r):=fun us hu=>hr us r (fun j hj a b ha=>by
   have:=hf (j+1) (by simpa using hj) a b ha
   rw[show i+(j+1)=i+1+j by omega] at this
   exact this) (by rw[if_neg (by omega)];exact hu)
  simp only[Nat.add_zero,List.getElem_cons_zero] at h0
  rw[List.length_cons]
  unfold argsT
  by_cases hi:i=0
  ·rw[if_pos hi,tokss_cons] at h
   obtain⟨a,b,rfl,ha,hb⟩:=map_app h
   rw[if_pos hi]
   simp only
   rw[List.append_assoc,h0 a _ ha]
   simp only
   rw[hrest b hb]
  ·rw[if_neg hi,tokms_cons] at h
   obtain⟨p,us,rfl,hu⟩:=map_cons' h
   obtain⟨a,b,rfl,ha,hb⟩:=map_app hu
   rw[if_neg hi]
   simp only[sg,List.cons_append]
   rw[take_sign]
   simp only
   rw[List.append_assoc,h0 a _ ha]
   simp only
   rw[hrest b hb]
theorem rest_ok{k n:Int}{nm:List UInt8}(hn:0≤n∧n≤mostN k)(hm:k=3→isName nm=true)(h3:nm≠[]↔k=3)(ts r:List Tok)(h:ts.map sh=tailS k n nm)(h0:k≠4):restT k (ts++r)= .ok ((n,nm),r):=by
 obtain⟨b1,b2,b3⟩:=most_le k
 unfold tailS at h
 unfold restT
 by_cases e3:k=3
 ·rw[if_pos e3] at h⊢
  obtain⟨p,us,rfl,hu⟩:=map_cons' h
  obtain rfl:us=[]:=by simpa using hu
  have n0:n=0:=by have:=b3 (by omega) (by omega) (by omega) (by omega);omega
  refine(if_pos (hm e3)).trans ?_
  simp only[List.cons_append,List.nil_append]
  rw[take_any (by omega)]
  simp[n0]
 ·have hnm:nm=[]:=Decidable.byContradiction fun e=>e3 (h3.1 e)
  rw[if_neg e3] at h⊢
  by_cases e5:k=5
  ·rw[if_pos e5] at h⊢
   obtain⟨p,us,rfl,hu⟩:=map_cons' h
   obtain⟨q,vs,rfl,hv⟩:=map_cons' hu
   obtain rfl:vs=[]:=by simpa using hv
   simp only[sg,List.cons_append,List.nil_append]
   rw[take_sign]
   simp only
   rw[take_any (by omega),hnm]
  ·rw[if_neg e5] at h⊢
   by_cases e6:k=6
   ·rw[if_pos e6] at h⊢
    obtain⟨p,us,rfl,hu⟩:=map_cons' h
    obtain⟨q,vs,rfl,hv⟩:=map_cons' hu
    obtain rfl:vs=[]:=by simpa using hv
    simp only[sg,List.cons_append,List.nil_append]
    rw[take_sign]
    simp only
    rw[take_any (by omega),hnm]
   ·rw[if_neg e6] at h⊢
    by_cases e11:k=11
    ·rw[if_pos e11] at h⊢
     obtain⟨p,us,rfl,hu⟩:=map_cons' h
     obtain rfl:us=[]:=by simpa using hu
     have hle:n≤1000:=by have:=hn.2;rw[e11] at this;exact this
     refine(if_pos hle).trans ?_
     simp only[List.cons_append,List.nil_append]
     rw[take_any (by omega),hnm]
    ·rw[if_neg e11] at h⊢
     obtain rfl:ts=[]:=by simpa using h
     have n0:n=0:=by have:=b3 h0 e5 e6 e11;omega
     rw[n0,hnm];rfl
theorem expr_ok:∀(x:Ex)(d:Nat)(ts r:List Tok),fine d x=true→ts.map sh=toks x→exprT d (isCond x.k) (ts++r)= .ok (x,r):=ex_ind fun k n nm l ih d ts r hx h=>by
 obtain⟨d,rfl⟩:∃e,d=e+1:=by
  cases d with
  |zero=>cases hx
  |succ d=>exact⟨d,rfl⟩
 obtain⟨a1,a2,a3,a4,a5⟩:=fine_parts hx
 have m1:=most_le k
 have k12:1≤k∧k≤12:=by
  unfold argsN at a1
  by_cases hk:k=1∨k=2∨k=3∨k=4∨k=11
  ·omega
  ·rw[if_neg hk] at a1
   split at a1
   ·omega
   ·split at a1
    ·omega
    ·split at a1
     ·omega
     ·omega
 have lnil:argsN k=0→l=[]:=fun e2=>List.length_eq_zero_iff.1 (by omega)
 have nnil:k≠3→nm=[]:=fun e=>Decidable.byContradiction fun h'=>e (a3.1 h')
 rw[toks_mk] at h
 show exprT (d+1) (isCond k) (ts++r)=_
 by_cases k4:k=4
 ·subst k4
  rw[if_pos rfl] at h
  obtain⟨p,us,rfl,hu⟩:=map_cons' h
  obtain rfl:us=[]:=by simpa using hu
  rw[exprT_money (kind_money _ _ _),nnil (by decide),lnil (by decide)]
  rfl
 ·rw[if_neg k4] at h
  by_cases k1:k=1∨k=2
  ·rw[if_pos k1] at h
   obtain⟨p,us,rfl,hu⟩:=map_cons' h
   obtain rfl:us=[]:=by simpa using hu
   have n0:n=0:=by have:=m1.2.2 k4 (by omega) (by omega) (by omega);omega
   rw[exprT_leaf (kind_word k12.1 k12.2 k4 _ _) k1,nnil (by omega),lnil (by rcases k1 with rfl|rfl<;>rfl),n0]
   rfl
  ·rw[if_neg k1] at h
   obtain⟨p,us,rfl,hu⟩:=map_cons' h
   obtain⟨q,vs,rfl,hv⟩:=map_cons' hu
   obtain⟨ta,tb,rfl,hta,htb⟩:=map_app hv
   obtain⟨tt,tc,rfl,htt,htc⟩:=map_app htb
   obtain⟨q2,ws,rfl,hw⟩:=map_cons' htc
   obtain rfl:ws=[]:=by simpa using hw
   rw[exprT_call (kind_word k12.1 k12.2 k4 _ _) (by omega) k4 k1]
   unfold callT
   simp only[List.cons_append,List.tail_cons,sg]
   rw[take_sign]
   simp only
   have ha:argsT (exprT d) k 0 l.length (ta++(tt++((4,[41],0,q2)::r)))= .ok (l,tt++((4,[41],0,q2)::r)):=args_ok (exprT d) k l 0 ta _ (fun j hj a b hab=>by
    have h5:=a5 j hj
    have:=ih _ (List.getElem_mem hj) d a b h5.2 hab
    rw[h5.1] at this
    rw[Nat.zero_add]
    exact this) (by rw[if_pos rfl];exact hta)
   have el:(argsN k).toNat=l.length:=by omega
   rw[el,List.append_assoc,List.append_assoc]
   simp only[List.cons_append,List.nil_append]
   rw[ha]
   simp only
   rw[rest_ok a2 a4 a3 tt _ htt k4]
   simp only
   rw[take_sign]
theorem parse_text{x:Ex}(h:rightX x=true):parseS (text x)= .ok x:=by
 simp only[rightX,Bool.and_eq_true,decide_eq_true_eq] at h
 obtain⟨⟨⟨h1,h2⟩,h3⟩,h4⟩:=h
 have hc:isCond x.k=false:=by simpa using h2
 obtain⟨ts,e,hm⟩:=fine_lex h1
 unfold parseS
 rw[if_neg (by omega),e]
 simp only
 unfold stratT
 have:=expr_ok x 32 ts [(5,[],0,((text x).length:Int))] h1 hm
 rw[hc] at this
 rw[this]
 rfl
def Spec{α:Type}(P:α→Prop)(ts:List Tok):Told α→Prop
 | .ok (x,r)=>P x∧∃a,ts=a++r
 | .error (e,p)=>(e=80∨e=81)∧(p=0∨∃t∈ts,p=t.2.2.2)
theorem Spec.mono{α:Type}{P Q:α→Prop}{ts:List Tok}{m:Told α}(h:Spec P ts m)(hq:∀x,P x→Q x):Spec Q ts m:=by
 rcases m with ⟨e,p⟩|⟨x,r⟩
 ·exact h
 ·exact⟨hq x h.1,h.2⟩
theorem Spec.up{α:Type}{P:α→Prop}{a ts:List Tok}{m:Told α}(h:Spec P ts m):Spec P (a++ts) m:=by
 rcases m with ⟨e,p⟩|⟨x,r⟩
 ·obtain⟨h1,h2⟩:=h
  refine⟨h1, ?_⟩
  rcases h2 with h|⟨t,ht,e⟩
  ·exact .inl h
  ·exact .inr ⟨t,List.mem_append_right _ ht,e⟩
 ·obtain⟨h1,b,rfl⟩:=h
  exact⟨h1,a++b,by rw[List.append_assoc]⟩
theorem at_spec{α:Type}{P:α→Prop}(ts:List Tok){e:Int}(he:e=80∨e=81):Spec P ts (.error (e,atT ts)):=by
 refine⟨he, ?_⟩
 cases ts with
 |nil=>exact .inl rfl
 |cons t r=>exact .inr ⟨t,List.mem_cons_self ..,rfl⟩
theorem take_spec(k:Int)(x:List UInt8)(ts:List Tok)(hk:k≠5):Spec (fun t=>t.1=k∧(x=[]∨t.2.1=x)∧t∈ts) ts (takeT k x ts):=by
 unfold takeT
 split
 ·rename_i h
  try rw[if_neg hk]
  cases ts with
  |nil=>exact absurd h.1.symm (by unfold hdT;exact hk)
  |cons t r=>exact⟨⟨h.1,h.2,List.mem_cons_self ..⟩,[t],rfl⟩
 ·exact at_spec ts (.inl rfl)
def okT(t:Tok):Prop:=(t.1=3→0≤t.2.2.1∧t.2.2.1≤1000000000000)∧(t.1=2→0≤t.2.2.1∧t.2.2.1≤100000)∧(t.1=1→t.2.1≠[])
theorem kind_spec{c:Bool}{t:Tok}(ho:okT t)(h:kindT c t≠0):(kindT c t=4∧t.1=3∧c=false)∨(t.1=1∧1≤kindT c t∧kindT c t≤12∧kindT c t≠4∧isCond (kindT c t)=c):=by
 by_cases h1:t.1=3∧c=false
 ·left
  refine⟨by unfold kindT;rw[if_pos h1],h1.1,h1.2⟩
 ·by_cases h2:t.1=1
  ·have e:kindT c t=kindW c t.2.1:=by unfold kindT;rw[if_neg h1,if_pos h2]
   rw[e] at h⊢
   right
   unfold kindW at h⊢
   cases hf:([1,2,3,4,5,6,7,8,9,10,11,12]:List Int).find? fun k=>wordK k==t.2.1&&isCond k==c with
   |none=>rw[hf] at h;exact absurd rfl h
   |some k=>
    have hs:=List.find?_some hf
    have hm:=List.mem_of_find?_eq_some hf
    simp only[Bool.and_eq_true,beq_iff_eq] at hs
    simp only[List.mem_cons,List.not_mem_nil,or_false] at hm
    have hw:=ho.2.2 h2
    refine⟨h2, ?_, ?_, ?_,hs.2⟩
    ·simp only[Option.getD_some];omega
    ·simp only[Option.getD_some];omega
    ·simp only[Option.getD_some]
     rintro rfl
     exact hw hs.1.symm
  ·exact absurd (by unfold kindT;rw[if_neg h1,if_neg h2]) h
theorem args_spec{d:Nat}(f:Bool→List Tok→Told Ex)(k:Int)(hf:∀c ts,(∀t∈ts,okT t)→Spec (fun x=>fine d x=true∧isCond x.k=c) ts (f c ts)):∀(m i:Nat)(ts:List Tok),(∀t∈ts,okT t)→
  Spec (fun l=>l.length=m∧∀j (h:j<l.length),isCond l[j].k=(decide (k=10)&&decide (i+j=0))∧fine d l[j]=true) ts (argsT f k i m ts):=by
 intro m
 induction m with
 |zero=>intro i ts _;unfold argsT;exact⟨⟨rfl,fun j h=>absurd h (by simp)⟩,[],rfl⟩
 |succ m ih=>
  intro i ts ho
  unfold argsT
  have h0:Spec (fun _=>True) ts (if i=0 then (.ok ((5,[],0,0),ts):Told Tok) else takeT 4 [44] ts):=by
   split
   ·exact⟨trivial,[],rfl⟩
   ·exact(take_spec 4 [44] ts (by decide)).mono fun _ _=>trivial
  rcases hm:(if i=0 then (.ok ((5,[],0,0),ts):Told Tok) else takeT 4 [44] ts) with ⟨e,p⟩|⟨t0,r0⟩
  ·rw[hm] at h0;exact h0
  ·rw[hm] at h0
   obtain⟨_,a,rfl⟩:=h0
   simp only
   have ho1:∀t∈r0,okT t:=fun t ht=>ho t (List.mem_append_right _ ht)
   have h1:=hf (decide (k=10)&&decide (i=0)) r0 ho1
   rcases hm1:f (decide (k=10)&&decide (i=0)) r0 with ⟨e,p⟩|⟨x,r1⟩
   ·rw[hm1] at h1;exact Spec.up (a:=a) (P:=_) h1
   ·rw[hm1] at h1
    obtain⟨hx,b,rfl⟩:=h1
    simp only
    have h2:=ih (i+1) r1 fun t ht=>ho1 t (List.mem_append_right _ ht)
    rcases hm2:argsT f k (i+1) m r1 with ⟨e,p⟩|⟨l,r2⟩
    ·rw[hm2] at h2;exact Spec.up (a:=a) (Spec.up (a:=b) h2)
    ·rw[hm2] at h2
     obtain⟨⟨hl,hl2⟩,c,rfl⟩:=h2
     refine⟨⟨by rw[List.length_cons,hl],fun j hj=> ?_⟩,a++(b++c),by simp⟩
     cases j with
     |zero=>exact⟨by simpa using hx.2,hx.1⟩
     |succ j=>
      have:=hl2 j (by simpa using hj)
      rw[show i+1+j=i+(j+1) by omega] at this
      exact this
theorem rest_spec{k:Int}(ts:List Tok)(ho:∀t∈ts,okT t)(h4:k≠4):Spec (fun q=>(0≤q.1∧q.1≤mostN k)∧(k=3→isName q.2=true)∧(q.2≠[]↔k=3)) ts (restT k ts):=by
 have two:∀(K:Int)(lim:Int),K≠5→k≠3→lim=mostN k→(∀t:Tok,okT t→t.1=K→0≤t.2.2.1∧t.2.2.1≤lim)→
   Spec (fun q=>(0≤q.1∧q.1≤mostN k)∧(k=3→isName q.2=true)∧(q.2≠[]↔k=3)) ts (match takeT 4 [44] ts with| .error e=> .error e| .ok (_,ts)=>(match takeT K [] ts with| .error e=> .error e| .ok (t,ts)=> .ok ((t.2.2.1,[]),ts))):=by
  intro K lim hK h3 hl hb
  have h0:=take_spec 4 [44] ts (by decide)
  rcases hm:takeT 4 [44] ts with ⟨e,p⟩|⟨t0,r0⟩
  ·rw[hm] at h0;exact h0
  ·rw[hm] at h0
   obtain⟨_,a,rfl⟩:=h0
   simp only
   have h1:=take_spec K [] r0 hK
   rcases hm1:takeT K [] r0 with ⟨e,p⟩|⟨t1,r1⟩
   ·rw[hm1] at h1;exact Spec.up (a:=a) (P:=_) h1
   ·rw[hm1] at h1
    obtain⟨⟨hk,_,hmem⟩,b,rfl⟩:=h1
    have:=hb t1 (ho t1 (List.mem_append_right _ hmem)) hk
    exact⟨⟨by rw[←hl];exact this,fun e=>absurd e h3,by simp[h3]⟩,a++b,by simp⟩
 unfold restT
 split
 ·rename_i e3
  subst e3
  split
  ·rename_i hn
   have h1:=take_spec 1 [] ts (by decide)
   rcases hm1:takeT 1 [] ts with ⟨e,p⟩|⟨t1,r1⟩
   ·rw[hm1] at h1;exact h1
   ·have e1:t1=hdT ts:=by
     unfold takeT at hm1
     split at hm1
     ·injection hm1 with hm1;injection hm1 with hm1;exact hm1.symm
     ·cases hm1
    rw[hm1] at h1
    rw[e1]
    refine⟨⟨⟨Int.le_refl _,(by decide:(0:Int)≤mostN 3)⟩,fun _=>hn,⟨fun _=>rfl,fun _=>(name_parts hn).1⟩⟩,h1.2⟩
  ·exact at_spec ts (.inl rfl)
 ·rename_i e3
  split
  ·rename_i e5;subst e5;exact two 3 _ (by decide) e3 rfl fun t ht hk=>ht.1 hk
  ·split
   ·rename_i e6;subst e6;exact two 2 _ (by decide) e3 rfl fun t ht hk=>ht.2.1 hk
   ·split
    ·rename_i e11
     subst e11
     split
     ·rename_i hle
      have h1:=take_spec 2 [] ts (by decide)
      rcases hm1:takeT 2 [] ts with ⟨e,p⟩|⟨t1,r1⟩
      ·rw[hm1] at h1;exact h1
      ·have e1:t1=hdT ts:=by
        unfold takeT at hm1
        split at hm1
        ·injection hm1 with hm1;injection hm1 with hm1;exact hm1.symm
        ·cases hm1
       rw[hm1] at h1
       obtain⟨⟨hk,_,hmem⟩,hr⟩:=h1
       have:=(ho t1 hmem).2.1 hk
       rw[←e1] at hle
       exact⟨⟨⟨this.1,hle⟩,fun e=>absurd e (by decide),by simp⟩,hr⟩
     ·exact at_spec ts (.inl rfl)
    ·rename_i e5 e6 e11
     refine⟨⟨⟨Int.le_refl _, ?_⟩,fun e=>absurd e e3,by simp[e3]⟩,[],rfl⟩
     rw[(most_le k).2.2 h4 e5 e6 e11];exact Int.le_refl _
theorem argsN_pos{k:Int}(h1:1≤k)(h2:k≤12):0≤argsN k:=by
 have:k=1∨k=2∨k=3∨k=4∨k=5∨k=6∨k=7∨k=8∨k=9∨k=10∨k=11∨k=12:=by omega
 rcases this with rfl|rfl|rfl|rfl|rfl|rfl|rfl|rfl|rfl|rfl|rfl|rfl<;>decide
theorem expr_spec:∀(d:Nat)(c:Bool)(ts:List Tok),(∀t∈ts,okT t)→Spec (fun x=>fine d x=true∧isCond x.k=c) ts (exprT d c ts):=by
 intro d
 induction d with
 |zero=>intro c ts _;rw[exprT_deep];exact at_spec ts (.inr rfl)
 |succ d ih=>
  intro c ts ho
  cases ts with
  |nil=>
   have:kindT c (hdT [])=0:=by unfold kindT hdT;simp
   rw[exprT_none this];exact at_spec [] (.inl rfl)
  |cons t r=>
   have hot:=ho t (List.mem_cons_self ..)
   by_cases h0:kindT c (hdT (t::r))=0
   ·rw[exprT_none h0];exact at_spec _ (.inl rfl)
   ·rcases kind_spec (c:=c) hot h0 with ⟨hk,ht,rfl⟩|⟨ht,k1,k2,k4,hc⟩
    ·rw[exprT_money hk]
     have:=hot.1 ht
     exact⟨⟨fine_mk (by decide) ⟨this.1,this.2⟩ (by simp) (by simp) (fun i hi=>absurd hi (by simp)),rfl⟩,[t],rfl⟩
    ·obtain⟨k,hk⟩:∃k,kindT c (hdT (t::r))=k:=⟨_,rfl⟩
     have hk':kindT c t=k:=hk
     rw[hk'] at k1 k2 k4 hc
     by_cases k12:k=1∨k=2
     ·rw[exprT_leaf hk k12]
      refine⟨⟨fine_mk ?_ ⟨Int.le_refl _, ?_⟩ ?_ ?_ (fun i hi=>absurd hi (by simp)),hc⟩,[t],rfl⟩
      ·rcases k12 with rfl|rfl<;>rfl
      ·rcases k12 with rfl|rfl<;>decide
      ·rcases k12 with rfl|rfl<;>simp
      ·rcases k12 with rfl|rfl<;>simp
     ·rw[exprT_call hk (by omega) k4 k12]
      refine Spec.up (a:=[t]) (ts:=r) ?_
      have hor:∀t∈r,okT t:=fun u hu=>ho u (List.mem_cons_of_mem _ hu)
      rw[List.tail_cons]
      unfold callT
      have h1:=take_spec 4 [40] r (by decide)
      rcases hm1:takeT 4 [40] r with ⟨e,p⟩|⟨t1,r1⟩
      ·rw[hm1] at h1;exact h1
      ·rw[hm1] at h1
       obtain⟨_,a1,rfl⟩:=h1
       refine Spec.up (a:=a1) ?_
       have ho1:∀t∈r1,okT t:=fun u hu=>hor u (List.mem_append_right _ hu)
       simp only
       have h2:=args_spec (exprT d) k (fun c ts h=>ih c ts h) (argsN k).toNat 0 r1 ho1
       rcases hm2:argsT (exprT d) k 0 (argsN k).toNat r1 with ⟨e,p⟩|⟨l,r2⟩
       ·rw[hm2] at h2;exact h2
       ·rw[hm2] at h2
        obtain⟨⟨hl,hl2⟩,a2,rfl⟩:=h2
        refine Spec.up (a:=a2) ?_
        have ho2:∀t∈r2,okT t:=fun u hu=>ho1 u (List.mem_append_right _ hu)
        simp only
        have h3:=rest_spec r2 ho2 k4
        rcases hm3:restT k r2 with ⟨e,p⟩|⟨⟨n,nm⟩,r3⟩
        ·rw[hm3] at h3;exact h3
        ·rw[hm3] at h3
         obtain⟨⟨q1,q2,q3⟩,a3,rfl⟩:=h3
         refine Spec.up (a:=a3) ?_
         simp only
         have h4:=take_spec 4 [41] r3 (by decide)
         rcases hm4:takeT 4 [41] r3 with ⟨e,p⟩|⟨t4,r4⟩
         ·rw[hm4] at h4;exact h4
         ·rw[hm4] at h4
          have:=argsN_pos k1 k2
          exact⟨⟨fine_mk (by rw[hl];omega) q1 q3 q2 fun i hi=>by have:=hl2 i hi;rw[Nat.zero_add] at this;exact this,hc⟩,h4.2⟩
theorem good_okT{x:List UInt8}{k n p:Int}(h:Good x k n):okT (k,x,n,p):=by
 obtain⟨_,_,_,h0,h2⟩:=good_kind h
 refine⟨fun e=>⟨h0, ?_⟩,fun e=>⟨h0,h2 e⟩,fun e=> ?_⟩
 ·simp only at e
  subst e
  rcases h with ⟨c,rfl,hs,hk,_⟩|⟨hx,ha,ht⟩
  ·omega
  ·unfold tokOf at ht
   split at ht
   ·cases ht
   ·split at ht
    ·cases ht
    ·cases hp:prs x with
     |none=>rw[hp] at ht;cases ht
     |some a=>
      rw[hp] at ht
      injection ht with ht
      injection ht with e1 e2
      subst e2
      have:=rt_iff.1 (txt_of_prs hp).1
      exact this.2
 ·rcases h with ⟨c,rfl,_⟩|⟨hx,_⟩
  ·simp
  ·exact hx
theorem lx_okT{p:Nat}{s:List UInt8}{l:List Tok}(h:lx p s= .ok l):(∀t∈l,okT t)∧(∀t∈l,0≤t.2.2.2∧t.2.2.2≤((p+s.length:Nat):Int))∧∃ts,l=ts++[(5,[],0,((p+s.length:Nat):Int))]:=by
 obtain⟨ts,rfl,hts,_,_⟩:=lx_out _ s (Nat.le_refl _) p l h
 refine⟨fun t ht=> ?_,fun t ht=> ?_,ts,rfl⟩
 ·rcases List.mem_append.1 ht with h1|h1
  ·exact good_okT (hts t h1).1
  ·obtain rfl:=List.mem_singleton.1 h1
   refine⟨?_, ?_, ?_⟩<;>(intro e;simp at e)
 ·rcases List.mem_append.1 ht with h1|h1
  ·have:=hts t h1;omega
  ·obtain rfl:=List.mem_singleton.1 h1
   exact⟨by simp only[];omega,Int.le_refl _⟩
theorem lx_err:∀(m:Nat)(s:List UInt8),s.length≤m→∀(p k:Nat),lx p s= .error k→k≤p+s.length:=by
 intro m
 induction m with
 |zero=>
  intro s hs p k h
  obtain rfl:s=[]:=List.length_eq_zero_iff.1 (by omega)
  rw[lx_nil] at h;cases h
 |succ m ih=>
  intro s hs p k h
  have pre_err:∀(ts:List Tok)(r:Scan),pre ts r= .error k→r= .error k:=fun ts r h=>by
   cases r with
   |ok m=>cases h
   |error q=>exact h
  cases s with
  |nil=>rw[lx_nil] at h;cases h
  |cons c t=>
   simp only[List.length_cons] at hs⊢
   cases hb:isBl c
   ·cases hg:isSg c
    ·cases hn:tokOf ((c::t).takeWhile isPt) with
     |none=>rw[lx_bad p c t hb hg hn] at h;injection h with h;omega
     |some kn=>
      obtain⟨k',n⟩:=kn
      rw[lx_tok p c t k' n hb hg hn] at h
      have h':=pre_err _ _ h
      have hx:=tokOf_ne hn
      have h2:=run_len (c::t)
      have h3:1≤((c::t).takeWhile isPt).length:=by
       rcases hx':(c::t).takeWhile isPt with _|⟨a,b⟩
       ·exact absurd hx' hx
       ·simp
      have h4:((c::t).takeWhile isPt).length≤(c::t).length:=(List.takeWhile_sublist _).length_le
      simp only[List.length_cons] at h2 h4
      have:=ih _ (by omega) _ _ h'
      omega
    ·rw[lx_sign p c t hb hg] at h
     have:=ih t (by omega) _ _ (pre_err _ _ h)
     omega
   ·rw[lx_blank p c t hb] at h
    have:=ih t (by omega) _ _ h
    omega
theorem strat_spec(ts:List Tok)(ho:∀t∈ts,okT t):(∀x,stratT ts= .ok x→fine 32 x=true∧isCond x.k=false)∧(∀e p,stratT ts= .error (e,p)→(e=80∨e=81)∧(p=0∨∃t∈ts,p=t.2.2.2)):=by
 have h:=expr_spec 32 false ts ho
 rcases hm:exprT 32 false ts with ⟨e,p⟩|⟨x,r⟩
 ·rw[hm] at h
  have e1:stratT ts= .error (e,p):=by unfold stratT;rw[hm]
  rw[e1]
  refine⟨(fun x hx=>by cases hx),fun e' p' he=> ?_⟩
  injection he with he
  injection he with h1 h2
  subst h1;subst h2
  exact h
 ·rw[hm] at h
  obtain⟨hx,a,rfl⟩:=h
  by_cases h5:(hdT r).1=5∧(([]:List UInt8)=[]∨(hdT r).2.1=[])
  ·have e1:stratT (a++r)= .ok x:=by
    have tk:takeT 5 [] r= .ok (hdT r,r):=by unfold takeT;rw[if_pos h5];rfl
    unfold stratT;rw[hm];simp only;rw[tk]
   rw[e1]
   refine⟨fun y hy=> ?_,(fun e' p' he=>by cases he)⟩
   injection hy with hy
   subst hy
   exact hx
  ·have e1:stratT (a++r)= .error (80,atT r):=by
    have tk:takeT 5 [] r= .error (80,atT r):=by unfold takeT;rw[if_neg h5]
    unfold stratT;rw[hm];simp only;rw[tk]
   rw[e1]
   refine⟨(fun x hx=>by cases hx),fun e' p' he=> ?_⟩
   injection he with he
   injection he with h1 h2
   subst h1;subst h2
   exact Spec.up (α:=Ex) (P:=fun _=>True) (a:=a) (at_spec r (.inl rfl))
theorem parse_spec(s:List UInt8):(∀x,parseS s= .ok x→fine 32 x=true∧isCond x.k=false)∧(∀e p,parseS s= .error (e,p)→(e=60∨e=61∨e=80∨e=81)∧0≤p∧p≤(s.length:Int)):=by
 by_cases hl:2000<s.length
 ·have e1:parseS s= .error (60,2000):=by unfold parseS;rw[if_pos hl]
  rw[e1]
  refine⟨(fun x hx=>by cases hx),fun e' p' he=> ?_⟩
  injection he with he
  injection he with h1 h2
  subst h1;subst h2
  exact⟨.inl rfl,by decide,by omega⟩
 ·cases hx:lx 0 s with
  |error k=>
   have e1:parseS s= .error (61,(k:Int)):=by unfold parseS;rw[if_neg hl,hx]
   rw[e1]
   have:=lx_err _ s (Nat.le_refl _) 0 k hx
   refine⟨(fun x hx=>by cases hx),fun e' p' he=> ?_⟩
   injection he with he
   injection he with h1 h2
   subst h1;subst h2
   exact⟨.inr (.inl rfl),by omega,by omega⟩
  |ok ts=>
   have e1:parseS s=stratT ts:=by unfold parseS;rw[if_neg hl,hx]
   rw[e1]
   obtain⟨h1,h2,_⟩:=lx_okT hx
   obtain⟨ha,hb⟩:=strat_spec ts h1
   refine⟨ha,fun e p he=> ?_⟩
   obtain⟨he,hp⟩:=hb e p he
   refine⟨.inr (.inr he), ?_, ?_⟩
   ·rcases hp with rfl|⟨t,ht,rfl⟩
    ·exact Int.le_refl _
    ·exact(h2 t ht).1
   ·rcases hp with rfl|⟨t,ht,rfl⟩
    ·omega
    ·have:=(h2 t ht).2;omega
abbrev PS:=List Tok×Int
def zT:Tok:=(0,[],0,0)
end Go.Proofs.YtjhjdiaomnpkmaaGreatDoor
