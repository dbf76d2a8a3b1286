/- Plain mathematics of layer 9: what strategies tell. No program in this text; Plain mathematics of layer 7, fourth part: what the law makes of raw numbers; Plain mathematics of layer 9: order makes no difference; what is reckoned within more is reckoned the same; offers of raw numbers. No program in this text; Plain mathematics of layer 9: what simple expressions tell; offers of raw numbers; lowest and second. No program in this text; Plain mathematics of layer 9: what the laws ask. No program in this text; Plain mathematics of layer 9: cuts, and what is told of one offer. No program in this text; Plain mathematics of layer 14: what may be asked for. No program in this text; Blocks that are known whole, rows of the call's own, and what is kept of them; Tokens in memory, pairs of raw numbers; which tokens are the same; Expressions in memory, and the law's source of raw numbers; Names as the law of layer 6 makes them. -/

import Derived.Test.YtfekhbeaphpelaaGreatDoorZ01
set_option maxRecDepth 100000
set_option maxHeartbeats 8000000
namespace Go.Proofs.YtfekhbeaphpelaaGreatDoor
open Go.Lib
set_option linter.unusedVariables false
set_option linter.unusedSimpArgs false
abbrev Of:=List UInt8×Int
def offOk(o:Of):Bool:=isName o.1&&decide (1≤o.2∧o.2≤1000000000000)
def fresh(l:List Of)(i:Nat)(s:List UInt8):Bool:=(l.take i).all fun o=>decide (o.1≠s)
def offsTo(l:List Of):Nat→Bool
 |0=>true
 |i+1=>offsTo l i&&(match l[i]? with|some o=>offOk o&&fresh l i o.1|none=>true)
def offsOk(l:List Of):Bool:=decide (l.length≤8)&&offsTo l l.length
theorem offsTo_iff{l:List Of}:∀{n:Nat},n≤l.length→(offsTo l n=true↔∀i (h:i<l.length),i<n→offOk l[i]=true∧∀k (hk:k<l.length),k<i→l[k].1≠l[i].1):=by
 intro n
 induction n with
 |zero=>intro _;exact⟨fun _ i _ h=>absurd h (by omega),fun _=>rfl⟩
 |succ n ih=>
  intro hn
  have hl:n<l.length:=by omega
  rw[offsTo,List.getElem?_eq_getElem hl,Bool.and_eq_true,ih (by omega)]
  simp only[Bool.and_eq_true,fresh,List.all_eq_true,decide_eq_true_eq]
  constructor
  ·rintro⟨h1,h2,h3⟩ i hi hin
   by_cases e:i=n
   ·subst e
    refine⟨h2,fun k hk hki=>h3 l[k] ?_⟩
    rw[List.mem_iff_getElem]
    exact⟨k,by rw[List.length_take];omega,by rw[List.getElem_take]⟩
   ·exact h1 i hi (by omega)
  ·intro h
   refine⟨fun i hi hin=>h i hi (by omega),(h n hl (by omega)).1,fun o ho=> ?_⟩
   obtain⟨k,hk,rfl⟩:=List.mem_iff_getElem.1 ho
   rw[List.length_take] at hk
   rw[List.getElem_take]
   exact(h n hl (by omega)).2 k (by omega) (by omega)
theorem offs_iff{l:List Of}:offsOk l=true↔l.length≤8∧∀i (h:i<l.length),offOk l[i]=true∧∀k (hk:k<l.length),k<i→l[k].1≠l[i].1:=by
 unfold offsOk
 rw[Bool.and_eq_true,decide_eq_true_eq,offsTo_iff (Nat.le_refl _)]
 exact⟨fun h=>⟨h.1,fun i hi=>h.2 i hi hi⟩,fun h=>⟨h.1,fun i hi _=>h.2 i hi⟩⟩
def prices(l:List Of):List Int:=l.map (·.2)
def rk(l:List Of)(n:Nat):Option Int:=(srt (prices l))[n]?
def fromO(l:List Of)(s:List UInt8):Option Int:=(l.find? fun o=>decide (o.1=s)).map (·.2)
def wtM(a l h:Int):Bool:=decide (l≤a∧a≤h)
def told1(n:Int):Int:=if rt n then n else 0
def told2(n:Int):Int:=if rt n then 0 else 10
def two1(a b n:Int):Int:=if rt a&&rt b then told1 n else 0
def two2(a b n:Int):Int:=if rt a&&rt b then told2 n else 10
def fl(p:Int):Int:=if p.tmod 10000<0 then p.tdiv 10000-1 else p.tdiv 10000
def prt(a bp:Int)(up:Bool):Int:=if up then -(fl (-(a*bp))) else fl (a*bp)
def part1(a bp:Int)(up:Bool):Int:=if rt a&&wtM bp (-100000) 100000 then told1 (prt a bp up) else 0
def part2(a bp:Int)(up:Bool):Int:=if rt a&&wtM bp (-100000) 100000 then told2 (prt a bp up) else 10
abbrev Rs:=Except Int (Option Int)
def subR(a n:Int):Rs:=if two2 a n (a-n)=0 then .ok (some (two1 a n (a-n))) else .error (two2 a n (a-n))
def cutR(a n:Int):Rs:=if part2 a n false=0 then subR a (part1 a n false) else .error (part2 a n false)
def exNone:Ex:= .mk 0 0 [] []
def arg(x:Ex)(i:Nat):Ex:=(x.l[i]?).getD exNone
def condF(f:Ex→Rs)(l:List Of)(x:Ex):Except Int Bool:=
 if x.k=11 then .ok (decide (x.n<(l.length:Int)))
 else match f (arg x 0) with
  | .error e=> .error e
  | .ok a=>match f (arg x 1) with
    | .error e=> .error e
    | .ok b=> .ok (match a,b with|some a,some b=>decide (b<a)|_,_=>false)
def bothF(k:Int)(a b:Option Int):Option Int:=match a,b with|some a,some b=>some (if k=7 then min a b else max a b)|_,_=>none
def toldG(f:Ex→Rs)(c:Except Int Bool)(r0 r1 fr:Option Int)(x:Ex):Rs:=
 if x.k=1 then .ok r0 else if x.k=2 then .ok r1 else if x.k=3 then .ok fr else if x.k=4 then .ok (some x.n)
 else if x.k=10 then match c with
  | .error e=> .error e
  | .ok true=>f (arg x 1)
  | .ok false=>f (arg x 2)
 else match f (arg x 0) with
  | .error e=> .error e
  | .ok a=>
    if x.k=9 then match a with|some v=> .ok (some v)|none=>f (arg x 1)
    else if x.k=5 then match a with|none=> .ok none|some v=>subR v x.n
    else if x.k=6 then match a with|none=> .ok none|some v=>cutR v x.n
    else match f (arg x 1) with
     | .error e=> .error e
     | .ok b=> .ok (bothF x.k a b)
def toldF(f:Ex→Rs)(l:List Of)(x:Ex):Rs:=toldG f (condF f l (arg x 0)) (rk l 0) (rk l 1) (fromO l x.nm) x
def toldN(l:List Of):Nat→Ex→Rs
 |0,_=> .ok none
 |d+1,x=>toldF (toldN l d) l x
theorem told_succ(l:List Of)(d:Nat)(x:Ex):toldN l (d+1) x=toldF (toldN l d) l x:=rfl
def condN(l:List Of)(d:Nat)(x:Ex):Except Int Bool:=condF (toldN l d) l x
def evalS(l:List Of)(x:Ex):Rs:=if offsOk l&&rightX x then toldN l 32 x else .error 1
def rsV:Rs→Int
 | .ok (some v)=>v
 |_=>0
def rsB:Rs→Bool
 | .ok (some _)=>true
 |_=>false
def rsE:Rs→Int
 | .error e=>e
 |_=>0
theorem sub_err(a n e:Int)(h:subR a n= .error e):e=10:=by
 unfold subR at h
 split at h
 ·cases h
 ·rename_i hn
  injection h with h
  unfold two2 told2 at*
  split at h
  ·split at h
   ·exact absurd (by rename_i h1 h2;rw[if_pos h1,if_pos h2]) hn
   ·exact h.symm
  ·exact h.symm
theorem cut_err(a n e:Int)(h:cutR a n= .error e):e=10:=by
 unfold cutR at h
 split at h
 ·exact sub_err _ _ _ h
 ·rename_i hn
  injection h with h
  unfold part2 told2 at*
  split at h
  ·split at h
   ·exact absurd (by rename_i h1 h2;rw[if_pos h1,if_pos h2]) hn
   ·exact h.symm
  ·exact h.symm
theorem told_err(l:List Of):∀(d:Nat) (x:Ex) (e:Int),toldN l d x= .error e→e=10:=by
 intro d
 induction d with
 |zero=>intro x e h;cases h
 |succ d ih=>
  have hc:∀(x:Ex) (e:Int),condF (toldN l d) l x= .error e→e=10:=by
   intro x e h
   unfold condF at h
   split at h
   ·cases h
   ·split at h
    ·rename_i e' he;injection h with h;subst h;exact ih _ _ he
    ·split at h
     ·rename_i e' he;injection h with h;subst h;exact ih _ _ he
     ·cases h
  intro x e h
  rw[told_succ] at h
  unfold toldF toldG at h
  split at h
  ·cases h
  split at h
  ·cases h
  split at h
  ·cases h
  split at h
  ·cases h
  split at h
  ·split at h
   ·rename_i e' he;injection h with h;subst h;exact hc _ _ he
   ·exact ih _ _ h
   ·exact ih _ _ h
  split at h
  ·rename_i e' he;injection h with h;subst h;exact ih _ _ he
  split at h
  ·split at h
   ·cases h
   ·exact ih _ _ h
  split at h
  ·split at h
   ·cases h
   ·exact sub_err _ _ _ h
  split at h
  ·split at h
   ·cases h
   ·exact cut_err _ _ _ h
  split at h
  ·rename_i e' he;injection h with h;subst h;exact ih _ _ he
  ·cases h
end Go.Proofs.YtfekhbeaphpelaaGreatDoor

namespace Go.Proofs.YtfekhbeaphpelaaGreatDoor
open Go.RowKit Go.Lib
set_option linter.unusedVariables false
set_option linter.unusedSimpArgs false
def nx(n:Int):List Int→Int×List Int
 |[]=>(0,[])
 |c::t=>(pk c n,t)
theorem nx_bd(n:Int)(h:0<n)(L:List Int):0≤(nx n L).1∧(nx n L).1<n:=by
 cases L with
 |nil=>exact⟨Int.le_refl _,h⟩
 |cons c t=>exact pk_bd c n h
def upto(f:Bool→List Int→Ex×List Int)(k:Int):Nat→List Int→List Ex×List Int
 |0,L=>([],L)
 |i+1,L=>((upto f k i L).1++[(f (decide (k=10)&&decide (i=0)) (upto f k i L).2).1],(f (decide (k=10)&&decide (i=0)) (upto f k i L).2).2)
def kindOf(d:Nat)(v:Int):Int:=if d=0 then 1+(1+v)%4 else 1+v
def fill(k:Int)(a:List Ex×List Int):Ex×List Int:=
 if k=3 then (.mk k 0 (sellerL (pk (nx 60 a.2).1 60)) a.1,(nx 60 a.2).2)
 else if k=4∨k=5 then (.mk k (nx 3000 a.2).1 [] a.1,(nx 3000 a.2).2)
 else if k=6 then (.mk k (nx 12000 a.2).1 [] a.1,(nx 12000 a.2).2)
 else (.mk k 0 [] a.1,a.2)
def gen:Nat→Bool→List Int→Ex×List Int
 |0,_,L=>(.mk 0 0 [] [],L)
 |d+1,true,L=>
  if d=0 then (.mk 11 (nx 7 L).1 [] [],(nx 7 L).2)
  else if (nx 2 L).1=0 then (.mk 11 (nx 7 (nx 2 L).2).1 [] [],(nx 7 (nx 2 L).2).2)
  else (.mk 12 0 [] [(gen d false (nx 2 L).2).1,(gen d false (gen d false (nx 2 L).2).2).1],(gen d false (gen d false (nx 2 L).2).2).2)
 |d+1,false,L=>fill (kindOf d (nx 10 L).1) (upto (gen d) (kindOf d (nx 10 L).1) (argsN (kindOf d (nx 10 L).1)).toNat (nx 10 L).2)
def strat(L:List Int):Ex:=(gen 5 false (L.take 100)).1
theorem upto_len(f:Bool→List Int→Ex×List Int)(k:Int)(i:Nat)(L:List Int):(upto f k i L).1.length=i:=by
 induction i with
 |zero=>rfl
 |succ i ih=>simp only[upto,List.length_append,List.length_cons,List.length_nil];omega
theorem upto_all{P:Nat→Ex→Prop}(f:Bool→List Int→Ex×List Int)(k:Int)(i:Nat)(L:List Int)(h:∀j<i,∀L,P j (f (decide (k=10)&&decide (j=0)) L).1):∀j (hj:j<(upto f k i L).1.length),P j ((upto f k i L).1[j]):=by
 induction i with
 |zero=>intro j hj;simp[upto] at hj
 |succ i ih=>
  intro j hj
  have hl:=upto_len f k i L
  simp only[upto] at hj⊢
  rcases Nat.lt_or_ge j (upto f k i L).1.length with h1|h1
  ·rw[List.getElem_append_left h1]
   exact ih (fun j hj L=>h j (by omega) L) j h1
  ·rw[List.length_append,List.length_cons,List.length_nil] at hj
   obtain rfl:j=i:=by omega
   rw[List.getElem_append_right h1]
   simp only[hl,Nat.sub_self,List.getElem_cons_zero]
   exact h j (by omega) _
theorem kind_bd(d:Nat)(L:List Int):1≤kindOf d (nx 10 L).1∧kindOf d (nx 10 L).1≤10∧(d=0→kindOf d (nx 10 L).1≤4):=by
 have:=nx_bd 10 (by omega) L
 unfold kindOf
 split
 ·refine⟨?_, ?_,fun _=> ?_⟩<;>omega
 ·refine⟨?_, ?_,fun h=>absurd h ‹_›⟩<;>omega
theorem seller_name(u:Int)(h0:0≤u)(h1:u<60):isName (sellerL u)=true:=by
 rw[seller_eq u h0 h1]
 have:∀i:Fin 60,isName ((theNames.getD (i.val%6) [])++[UInt8.ofNat (48+i.val/6)])=true:=by decide
 exact this ⟨u.toNat,by omega⟩
theorem pk_id{u n:Int}(h0:0≤u)(h1:u<n):pk u n=u:=by
 unfold pk;rw[if_neg (by omega)];exact Int.emod_eq_of_lt h0 h1
theorem args_nat{k:Int}(h1:1≤k)(h2:k≤12):argsN k=((argsN k).toNat:Int):=by
 have:0≤argsN k:=by
  unfold argsN
  split
  ·omega
  ·split
   ·omega
   ·split
    ·omega
    ·split<;>omega
 omega
theorem gen_fine:∀(d:Nat) (c:Bool) (L:List Int),fine (d+1) (gen (d+1) c L).1=true∧isCond (gen (d+1) c L).1.k=c:=by
 intro d
 induction d with
 |zero=>
  intro c L
  cases c with
  |true=>
   have:=nx_bd 7 (by omega) L
   simp only[gen,if_pos]
   exact⟨fine_mk (by decide) ⟨by omega,by show _≤(1000:Int);omega⟩ (by simp) (by simp) (fun i hi=>absurd hi (by simp)),rfl⟩
  |false=>
   obtain⟨b1,b2,b3⟩:=kind_bd 0 L
   obtain⟨k,hk⟩:∃k,kindOf 0 (nx 10 L).1=k:=⟨_,rfl⟩
   simp only[gen]
   rw[hk] at b1 b2 b3⊢
   have b4:=b3 rfl
   have a0:argsN k=0:=by
    have:k=1∨k=2∨k=3∨k=4:=by omega
    rcases this with rfl|rfl|rfl|rfl<;>decide
   rw[a0]
   have n60:=nx_bd 60 (by omega) (nx 10 L).2
   have n3:=nx_bd 3000 (by omega) (nx 10 L).2
   have:k=1∨k=2∨k=3∨k=4:=by omega
   rcases this with rfl|rfl|rfl|rfl
   ·exact⟨fine_mk (show argsN 1=((0:Nat):Int) by decide) (by decide) (by simp) (by simp) (fun i hi=>absurd hi (by simp[upto])),rfl⟩
   ·exact⟨fine_mk (show argsN 2=((0:Nat):Int) by decide) (by decide) (by simp) (by simp) (fun i hi=>absurd hi (by simp[upto])),rfl⟩
   ·have hn:=seller_name (pk (nx 60 (nx 10 L).2).1 60) (by rw[pk_id n60.1 n60.2];omega) (by rw[pk_id n60.1 n60.2];omega)
    exact⟨fine_mk (show argsN 3=((0:Nat):Int) by decide) (by decide) (by simp only[iff_true];exact(name_parts hn).1) (fun _=>hn) (fun i hi=>absurd hi (by simp[upto])),rfl⟩
   ·exact⟨fine_mk (show argsN 4=((0:Nat):Int) by decide) ⟨n3.1,Int.le_of_lt (Int.lt_trans n3.2 (by decide))⟩ (by simp) (by simp) (fun i hi=>absurd hi (by simp[upto])),rfl⟩
 |succ d ih=>
  intro c L
  cases c with
  |true=>
   have h7:=nx_bd 7 (by omega) (nx 2 L).2
   rw[gen]
   rw[if_neg (by omega)]
   split
   ·exact⟨fine_mk (by decide) ⟨by omega,by show _≤(1000:Int);omega⟩ (by simp) (by simp) (fun i hi=>absurd hi (by simp)),rfl⟩
   ·refine⟨fine_mk (show argsN 12=((2:Nat):Int) by decide) (by decide) (by simp) (by simp) (fun i hi=> ?_),rfl⟩
    have q1:=ih false (nx 2 L).2
    have q2:=ih false (gen (d+1) false (nx 2 L).2).2
    have:i=0∨i=1:=by simp at hi;omega
    rcases this with rfl|rfl
    ·exact⟨q1.2,q1.1⟩
    ·exact⟨q2.2,q2.1⟩
  |false=>
   obtain⟨b1,b2,_⟩:=kind_bd (d+1) L
   obtain⟨k,hk⟩:∃k,kindOf (d+1) (nx 10 L).1=k:=⟨_,rfl⟩
   obtain⟨a,ha⟩:∃a,upto (gen (d+1)) k (argsN k).toNat (nx 10 L).2=a:=⟨_,rfl⟩
   rw[gen,hk]
   rw[hk] at b1 b2
   have hl:argsN k=(a.1.length:Int):=by rw[←ha,upto_len];exact args_nat b1 (by omega)
   have hall:∀i (hi:i<a.1.length),isCond a.1[i].k=(decide (k=10)&&decide (i=0))∧fine (d+1) a.1[i]=true:=by
    subst ha
    exact upto_all (P:=fun i x=>isCond x.k=(decide (k=10)&&decide (i=0))∧fine (d+1) x=true) (gen (d+1)) k (argsN k).toNat (nx 10 L).2 fun j _ L=>⟨(ih _ L).2,(ih _ L).1⟩
   rw[ha]
   have n60:=nx_bd 60 (by omega) a.2
   have n3:=nx_bd 3000 (by omega) a.2
   have n12:=nx_bd 12000 (by omega) a.2
   have hc:isCond k=false:=by unfold isCond;simp;omega
   unfold fill
   split
   ·rename_i e
    subst e
    have hn:=seller_name (pk (nx 60 a.2).1 60) (by rw[pk_id n60.1 n60.2];omega) (by rw[pk_id n60.1 n60.2];omega)
    exact⟨fine_mk hl (by decide) (by simp only[iff_true];exact(name_parts hn).1) (fun _=>hn) hall,rfl⟩
   ·rename_i e3
    split
    ·rename_i e
     refine⟨fine_mk hl ⟨n3.1, ?_⟩ (by simp[e3]) (fun h=>absurd h e3) hall,hc⟩
     rcases e with rfl|rfl<;>exact Int.le_of_lt (Int.lt_trans n3.2 (by decide))
    ·split
     ·rename_i e
      subst e
      exact⟨fine_mk hl ⟨n12.1,Int.le_of_lt (Int.lt_trans n12.2 (by decide))⟩ (by simp) (by simp) hall,hc⟩
     ·refine⟨fine_mk hl ⟨Int.le_refl _, ?_⟩ (by simp[e3]) (fun h=>absurd h e3) hall,hc⟩
      unfold mostN
      split
      ·omega
      ·split
       ·omega
       ·first|(split<;>omega)|omega
theorem fine_size:∀(d:Nat) (x:Ex),fine d x=true→size x≤4^d:=by
 intro d
 induction d with
 |zero=>intro x h;cases h
 |succ d ih=>
  intro x h
  cases x with
  |mk k n nm l=>
   obtain⟨h1,_,_,_,h5⟩:=fine_parts h
   have h3:=args_le k
   have hs:∀l:List Ex,(∀x∈l,size x≤4^d)→sizes l≤l.length*4^d:=by
    intro l
    induction l with
    |nil=>intro _;rw[sizes_nil];omega
    |cons y t ih2=>
     intro hh
     have e1:=hh y (List.mem_cons_self ..)
     have e2:=ih2 fun z hz=>hh z (List.mem_cons_of_mem _ hz)
     rw[sizes_cons,List.length_cons,Nat.add_mul,Nat.one_mul];omega
   have:=hs l fun y hy=>ih y (fine_mem h hy)
   have h4:l.length*4^d≤3*4^d:=Nat.mul_le_mul_right _ (by omega)
   have h6:1≤4^d:=Nat.one_le_pow _ _ (by omega)
   rw[size_mk,Nat.pow_succ]
   omega
theorem strat_fine(L:List Int):fine 5 (strat L)=true∧isCond (strat L).k=false:=gen_fine 4 false _
theorem strat_size(L:List Int):size (strat L)≤1024:=fine_size 5 _ (strat_fine L).1
end Go.Proofs.YtfekhbeaphpelaaGreatDoor

namespace Go.Proofs.YtfekhbeaphpelaaGreatDoor
open Go.Lib
set_option linter.unusedVariables false
set_option linter.unusedSimpArgs false
theorem offs_nodup{l:List Of}:offsOk l=true↔l.length≤8∧(∀o∈l,offOk o=true)∧(l.map (·.1)).Nodup:=by
 rw[offs_iff]
 refine and_congr_right fun _=> ?_
 constructor
 ·intro h
  refine⟨fun o ho=> ?_, ?_⟩
  ·obtain⟨i,hi,rfl⟩:=List.mem_iff_getElem.1 ho
   exact(h i hi).1
  ·unfold List.Nodup
   rw[List.pairwise_iff_getElem]
   intro i j hi hj hij
   rw[List.getElem_map,List.getElem_map]
   rw[List.length_map] at hi hj
   exact(h j hj).2 i hi hij
 ·rintro⟨h1,h2⟩ i hi
  refine⟨h1 _ (List.getElem_mem hi),fun k hk hki=> ?_⟩
  unfold List.Nodup at h2
  rw[List.pairwise_iff_getElem] at h2
  have:=h2 k i (by simpa using hk) (by simpa using hi) hki
  simpa using this
theorem arg_at{k n:Int}{nm:List UInt8}{l:List Ex}{i:Nat}(h:i<l.length):arg (.mk k n nm l) i=l[i]:=by
 unfold arg
 rw[show(Ex.mk k n nm l).l=l from rfl,List.getElem?_eq_getElem h];rfl
theorem arg_fine{d:Nat}{k n:Int}{nm:List UInt8}{l:List Ex}(h:fine (d+1) (.mk k n nm l)=true){i:Nat}(hi:(i:Int)<argsN k):
  ∃hi:i<l.length,arg (.mk k n nm l) i=l[i]∧fine d l[i]=true∧isCond l[i].k=(decide (k=10)&&decide (i=0)):=by
 obtain⟨h1,_,_,_,h5⟩:=fine_parts h
 have hl:i<l.length:=by omega
 exact⟨hl,arg_at hl,(h5 i hl).2,(h5 i hl).1⟩
theorem kind_list{k:Int}(h:0≤argsN k):k=1∨k=2∨k=3∨k=4∨k=5∨k=6∨k=7∨k=8∨k=9∨k=10∨k=11∨k=12:=by
 unfold argsN at h
 repeat' split at h
 all_goals omega
theorem told_less(l:List Of):∀(d e:Nat),d≤e→∀(x:Ex),fine d x=true→(isCond x.k=false→toldN l e x=toldN l d x)∧(isCond x.k=true→condN l e x=condN l d x):=by
 intro d
 induction d with
 |zero=>intro e _ x h;cases h
 |succ d ih=>
  intro e he x hx
  cases e with
  |zero=>omega
  |succ e=>
   have he:d≤e:=by omega
   cases x with
   |mk k n nm xs=>
    have hk:=kind_list (k:=k) (by obtain⟨h1,_⟩:=fine_parts hx;omega)
    have hT:∀(i:Nat),(i:Int)<argsN k→isCond (arg (.mk k n nm xs) i).k=(decide (k=10)&&decide (i=0))∧(isCond (arg (.mk k n nm xs) i).k=false→toldN l e (arg (.mk k n nm xs) i)=toldN l d (arg (.mk k n nm xs) i))∧(isCond (arg (.mk k n nm xs) i).k=true→condN l e (arg (.mk k n nm xs) i)=condN l d (arg (.mk k n nm xs) i)):=fun i hi=>by
     obtain⟨_,e1,f,c⟩:=arg_fine hx hi
     rw[e1];exact⟨c,ih e he _ f⟩
    have hN:∀(i:Nat),(i:Int)<argsN k→(k=10→i≠0)→toldN l e (arg (.mk k n nm xs) i)=toldN l d (arg (.mk k n nm xs) i):=fun i hi h=>(hT i hi).2.1 (by
     rw[(hT i hi).1]
     by_cases h10:k=10
     ·simp[h h10]
     ·simp[h10])
    generalize hX:Ex.mk k n nm xs=X at*
    have hXk:X.k=k:=by rw[←hX];rfl
    constructor
    ·intro hc
     rw[told_succ,told_succ]
     unfold toldF toldG
     rw[hXk]
     rcases hk with rfl|rfl|rfl|rfl|rfl|rfl|rfl|rfl|rfl|rfl|rfl|rfl
     ·rfl
     ·rfl
     ·rfl
     ·rfl
     ·rw[hN 0 (by decide) (by omega)];rfl
     ·rw[hN 0 (by decide) (by omega)];rfl
     ·rw[hN 0 (by decide) (by omega),hN 1 (by decide) (by omega)];rfl
     ·rw[hN 0 (by decide) (by omega),hN 1 (by decide) (by omega)];rfl
     ·rw[hN 0 (by decide) (by omega),hN 1 (by decide) (by omega)];rfl
     ·have c:=(hT 0 (by decide)).2.2 (by rw[(hT 0 (by decide)).1];rfl)
      unfold condN at c
      rw[c,hN 1 (by decide) (by omega),hN 2 (by decide) (by omega)];rfl
     ·rw[hXk] at hc;cases hc
     ·rw[hXk] at hc;cases hc
    ·intro hc
     unfold condN condF
     rw[hXk]
     have hk':k=11∨k=12:=by
      rw[hXk] at hc
      simpa [isCond] using hc
     rcases hk' with rfl|rfl
     ·rfl
     ·have hh:∀(i:Nat),(i:Int)<2→toldN l (e+1) (arg X i)=toldN l (d+1) (arg X i):=fun i hi=>by
       obtain⟨_,e1,f,c⟩:=arg_fine (k:=12) (hX▸hx) (i:=i) hi
       rw[←hX,e1,(ih (e+1) (by omega) _ f).1 (by rw[c];rfl),(ih (d+1) (by omega) _ f).1 (by rw[c];rfl)]
      rw[hh 0 (by decide),hh 1 (by decide)]
theorem offsOk_nil:offsOk []=true:=by decide
theorem offs_len{l:List Of}(h:offsOk l=true):l.length≤8:=(offs_nodup.1 h).1
theorem right_leaf{k n:Int}{nm:List UInt8}(hk:k=1∨k=2∨k=3∨k=4)(hn:0≤n∧n≤mostN k)(h3:nm≠[]↔k=3)(hm:k=3→isName nm=true):rightX (.mk k n nm [])=true:=by
 have hf:fine 32 (.mk k n nm [])=true:=fine_mk (by rcases hk with rfl|rfl|rfl|rfl<;>rfl) hn h3 hm fun i hi=>absurd hi (by simp)
 have hc:isCond (Ex.mk k n nm []).k=false:=by rcases hk with rfl|rfl|rfl|rfl<;>rfl
 have hs:size (.mk k n nm [])=1:=by rw[size_mk,sizes_nil]
 have ht:=text_len _ _ hf
 unfold rightX
 rw[hf,hc,hs]
 rw[hs] at ht
 simp;omega
theorem told_one(l:List Of)(d:Nat)(x:Ex)(h:x.k=1):toldN l (d+1) x= .ok (rk l 0):=by rw[told_succ];unfold toldF toldG;rw[if_pos h]
theorem told_two(l:List Of)(d:Nat)(x:Ex)(h:x.k=2):toldN l (d+1) x= .ok (rk l 1):=by rw[told_succ];unfold toldF toldG;rw[h];rfl
theorem told_from(l:List Of)(d:Nat)(x:Ex)(h:x.k=3):toldN l (d+1) x= .ok (fromO l x.nm):=by rw[told_succ];unfold toldF toldG;rw[h];rfl
theorem told_fix(l:List Of)(d:Nat)(x:Ex)(h:x.k=4):toldN l (d+1) x= .ok (some x.n):=by rw[told_succ];unfold toldF toldG;rw[h];rfl
theorem told_less5(l:List Of)(d:Nat)(n:Int)(nm:List UInt8)(y:Ex):toldN l (d+1) (.mk 5 n nm [y])=match toldN l d y with| .error e=> .error e| .ok none=> .ok none| .ok (some v)=>subR v n:=by
 rw[told_succ];unfold toldF toldG
 rw[show arg (.mk 5 n nm [y]) 0=y from rfl]
 cases toldN l d y with
 |error e=>rfl
 |ok o=>cases o<;>rfl
theorem told_cut6(l:List Of)(d:Nat)(n:Int)(nm:List UInt8)(y:Ex):toldN l (d+1) (.mk 6 n nm [y])=match toldN l d y with| .error e=> .error e| .ok none=> .ok none| .ok (some v)=>cutR v n:=by
 rw[told_succ];unfold toldF toldG
 rw[show arg (.mk 6 n nm [y]) 0=y from rfl]
 cases toldN l d y with
 |error e=>rfl
 |ok o=>cases o<;>rfl
theorem told_both(l:List Of)(d:Nat)(k n:Int)(nm:List UInt8)(x y:Ex)(hk:k=7∨k=8):toldN l (d+1) (.mk k n nm [x,y])=match toldN l d x with| .error e=> .error e| .ok a=>match toldN l d y with| .error e=> .error e| .ok b=> .ok (bothF k a b):=by
 rw[told_succ];unfold toldF toldG
 rw[show arg (.mk k n nm [x,y]) 0=x from rfl,show arg (.mk k n nm [x,y]) 1=y from rfl]
 rcases hk with rfl|rfl<;>rfl
theorem told_else(l:List Of)(d:Nat)(n:Int)(nm:List UInt8)(x y:Ex):toldN l (d+1) (.mk 9 n nm [x,y])=match toldN l d x with| .error e=> .error e| .ok (some v)=> .ok (some v)| .ok none=>toldN l d y:=by
 rw[told_succ];unfold toldF toldG
 rw[show arg (.mk 9 n nm [x,y]) 0=x from rfl,show arg (.mk 9 n nm [x,y]) 1=y from rfl]
 cases toldN l d x with
 |error e=>rfl
 |ok o=>cases o<;>rfl
theorem told_if(l:List Of)(d:Nat)(n:Int)(nm:List UInt8)(c x y:Ex):toldN l (d+1) (.mk 10 n nm [c,x,y])=match condN l d c with| .error e=> .error e| .ok true=>toldN l d x| .ok false=>toldN l d y:=by
 rw[told_succ];unfold toldF toldG
 rw[show arg (.mk 10 n nm [c,x,y]) 0=c from rfl,show arg (.mk 10 n nm [c,x,y]) 1=x from rfl,show arg (.mk 10 n nm [c,x,y]) 2=y from rfl]
 rfl
theorem cond_more(l:List Of)(d:Nat)(n:Int)(nm:List UInt8)(xs:List Ex):condN l d (.mk 11 n nm xs)= .ok (decide (n<(l.length:Int))):=rfl
theorem cond_above(l:List Of)(d:Nat)(n:Int)(nm:List UInt8)(x y:Ex):condN l d (.mk 12 n nm [x,y])=match toldN l d x with| .error e=> .error e| .ok a=>match toldN l d y with| .error e=> .error e| .ok b=> .ok (match a,b with|some a,some b=>decide (b<a)|_,_=>false):=rfl
theorem eval_yes{l:List Of}{x:Ex}(h:offsOk l=true)(h':rightX x=true):evalS l x=toldN l 32 x:=by unfold evalS;rw[h,h'];rfl
theorem prices_len(l:List Of):(prices l).length=l.length:=List.length_map ..
theorem eval_err{l:List Of}{x:Ex}{e:Int}(h:evalS l x= .error e):e=1∨e=10:=by
 unfold evalS at h
 split at h
 ·exact .inr (told_err _ _ _ _ h)
 ·injection h with h;exact .inl h.symm
theorem fl9{p:Int}:fl p*10000≤p∧p<fl p*10000+10000:=by
 have h1:=Int.mul_tdiv_add_tmod p 10000
 have h2:=Int.tmod_lt_of_pos p (show(0:Int)<10000 by omega)
 have h3: -10000<p.tmod 10000:=by
  have:=Int.tmod_lt_of_pos (-p) (show(0:Int)<10000 by omega)
  rw[Int.neg_tmod] at this;omega
 unfold fl
 split<;>omega
theorem fl9_eq{p q:Int}(h:q*10000≤p)(h':p<q*10000+10000):fl p=q:=by
 have:= @fl9 p;omega
theorem cut_price{a n:Int}(ha:0≤a)(ha':a≤1000000000000)(hn:0≤n)(hn':n≤10000):∃b,cutR a n= .ok (some b)∧0≤b∧b≤a∧(n=0→b=a)∧(n=10000→b=0):=by
 have h0:0≤a*n:=Int.mul_nonneg ha hn
 have h1:a*n≤a*10000:=Int.mul_le_mul_of_nonneg_left hn' ha
 have hf:= @fl9 (a*n)
 have hp:0≤fl (a*n)∧fl (a*n)≤a:=by omega
 have hr:rt a=true:=by simp[rt];omega
 have hw:wtM n (-100000) 100000=true:=by simp[wtM];omega
 have hr2:rt (fl (a*n))=true:=by simp[rt];omega
 have hr3:rt (a-fl (a*n))=true:=by simp[rt];omega
 refine⟨a-fl (a*n), ?_,by omega,by omega, ?_, ?_⟩
 ·unfold cutR
  rw[show part2 a n false=0 by simp[part2,hr,hw,prt,told2,hr2],if_pos rfl,show part1 a n false=fl (a*n) by simp[part1,hr,hw,prt,told1,hr2]]
  unfold subR
  rw[show two2 a (fl (a*n)) (a-fl (a*n))=0 by simp[two2,hr,hr2,told2,hr3],if_pos rfl,show two1 a (fl (a*n)) (a-fl (a*n))=a-fl (a*n) by simp[two1,hr,hr2,told1,hr3]]
 ·rintro rfl
  rw[fl9_eq (p:=a*0) (q:=0) (by omega) (by omega)];omega
 ·rintro rfl
  rw[fl9_eq (p:=a*10000) (q:=a) (by omega) (by omega)];omega
theorem sub_price{a n:Int}(ha:0≤a)(ha':a≤1000000000000)(hn:0≤n)(hn':n≤1000000000000):subR a n= .ok (some (a-n)):=by
 have hr:rt a=true:=by simp[rt];omega
 have hr2:rt n=true:=by simp[rt];omega
 have hr3:rt (a-n)=true:=by simp[rt];omega
 unfold subR
 rw[show two2 a n (a-n)=0 by simp[two2,hr,hr2,told2,hr3],if_pos rfl,show two1 a n (a-n)=a-n by simp[two1,hr,hr2,told1,hr3]]
theorem from_none{l:List Of}{s:List UInt8}(h:∀i (hi:i<l.length),l[i].1≠s):fromO l s=none:=by
 unfold fromO
 rw[Option.map_eq_none_iff,List.find?_eq_none]
 intro o ho
 obtain⟨i,hi,rfl⟩:=List.mem_iff_getElem.1 ho
 simpa using h i hi
abbrev Cf:=Int×Int×Int×Int×Int×List UInt8
abbrev flC(c:Cf):Int:=c.1
abbrev ceC(c:Cf):Int:=c.2.1
abbrev mpC(c:Cf):Int:=c.2.2.1
abbrev coC(c:Cf):Int:=c.2.2.2.1
abbrev bdC(c:Cf):Int:=c.2.2.2.2.1
abbrev txC(c:Cf):List UInt8:=c.2.2.2.2.2
def numsOk(c:Cf):Bool:=decide (1≤flC c∧flC c≤ceC c∧ceC c≤1000000000000∧0≤mpC c∧mpC c≤ceC c∧0≤coC c∧coC c≤1048576∧0≤bdC c∧bdC c≤1000000000000)
def textE(t:List UInt8):Int:=match parseS t with| .error p=>p.1| .ok x=>if rightX x then 0 else 1
def checkC(c:Cf):Int:=if numsOk c then textE (txC c) else 10
def lowC(c:Cf):Int:=max (flC c) (mpC c)
def withinC(c:Cf)(p:Int):Bool:=decide (checkC c=0∧lowC c≤p∧p≤ceC c)
def clampC(n l h:Int):Int:=max l (min n h)
def tellT(t:List UInt8)(os:List (List UInt8×Int)):Option Int:=match parseS t with| .ok x=>(match evalS os x with| .ok (some n)=>some n|_=>none)| .error _=>none
def targetC(c:Cf)(os:List (List UInt8×Int)):Option Int:=if checkC c=0 then (tellT (txC c) os).map fun n=>clampC n (lowC c) (ceC c) else none
def targN(c:Cf)(os:List (List UInt8×Int)):Int:=(targetC c os).getD 0
def targI(c:Cf)(os:List (List UInt8×Int)):Bool:=(targetC c os).isSome
theorem nums_iff{c:Cf}:numsOk c=true↔1≤flC c∧flC c≤ceC c∧ceC c≤1000000000000∧0≤mpC c∧mpC c≤ceC c∧0≤coC c∧coC c≤1048576∧0≤bdC c∧bdC c≤1000000000000:=by
 unfold numsOk;rw[decide_eq_true_eq]
theorem textE_error{t:List UInt8}{e p:Int}(h:parseS t= .error (e,p)):textE t=e:=by unfold textE;rw[h]
theorem textE_ok{t:List UInt8}{x:Ex}(h:parseS t= .ok x):textE t=if rightX x then 0 else 1:=by unfold textE;rw[h]
theorem check_zero{c:Cf}:checkC c=0↔numsOk c=true∧textE (txC c)=0:=by
 unfold checkC
 by_cases h:numsOk c=true
 ·rw[if_pos h];exact⟨fun e=>⟨h,e⟩,fun e=>e.2⟩
 ·rw[if_neg h];exact⟨fun e=>by omega,fun e=>absurd e.1 h⟩
theorem textE_zero{t:List UInt8}:textE t=0↔∃x,parseS t= .ok x∧rightX x=true:=by
 unfold textE
 cases h:parseS t with
 |error p=>
  obtain⟨e,q⟩:=p
  have:=((parse_spec t).2 e q h).1
  constructor
  ·intro h0
   have h0:e=0:=h0
   omega
  ·rintro⟨x,hx,_⟩
   cases hx
 |ok x=>
  by_cases hr:rightX x=true
  ·exact⟨fun _=>⟨x,rfl,hr⟩,fun _=>if_pos hr⟩
  ·refine⟨fun h0=> ?_, ?_⟩
   ·have h0:(if rightX x then (0:Int) else 1)=0:=h0
    rw[if_neg hr] at h0;omega
   ·rintro⟨y,hy,hyr⟩
    injection hy with hy
    subst hy
    exact absurd hyr hr
theorem target_of{c:Cf}(hn:numsOk c=true)(ht:textE (txC c)=0)(os:List (List UInt8×Int)):targetC c os=(tellT (txC c) os).map fun n=>clampC n (lowC c) (ceC c):=by
 unfold targetC;rw[if_pos (check_zero.2 ⟨hn,ht⟩)]
theorem text_right{x:Ex}(h:rightX x=true):textE (text x)=0:=by rw[textE_ok (parse_text h),if_pos h]
end Go.Proofs.YtfekhbeaphpelaaGreatDoor

namespace Go.Proofs.YtfekhbeaphpelaaGreatDoor
open Go.RowKit Go.Lib
set_option linter.unusedVariables false
set_option linter.unusedSimpArgs false
theorem blk_of_cell{w:World}{a:Addr}{v:Value}(h:w.cell? a=some v):a.block<w.heap.size:=by
 rcases Nat.lt_or_ge a.block w.heap.size with hn|hn
 ·exact hn
 ·simp[World.cell?,Array.getElem?_eq_none hn] at h
theorem block_add(a:Addr)(n:Nat):(a.add n).block=a.block:=by unfold Addr.add;split<;>rfl
def Bk(w:World)(g:Nat)(t:TypeId)(cs:Array Value):Prop:=w.heap[g]?=some (.cells cs t (0,0))
theorem Bk.lt{w:World}{g:Nat}{t:TypeId}{cs:Array Value}(h:Bk w g t cs):g<w.heap.size:=by
 rcases Nat.lt_or_ge g w.heap.size with h'|h'
 ·exact h'
 ·unfold Bk at h;rw[Array.getElem?_eq_none h'] at h;cases h
theorem Bk.cell{w:World}{g:Nat}{t:TypeId}{cs:Array Value}(h:Bk w g t cs)(i:Nat):w.cell? ⟨g,i,none⟩=cs[i]?:=cell_of_row w g i cs t (0,0) h
theorem Bk.frozen{w:World}{g:Nat}{t:TypeId}{cs:Array Value}(h:Bk w g t cs)(i:Nat):w.frozen? ⟨g,i,none⟩=false:=by
 unfold Bk at h;simp[World.frozen?,h]
theorem Bk.new(w:World)(t:TypeId)(cs:Array Value):Bk (w.alloc (.cells cs t)) w.heap.size t cs:=heap_alloc_new w _
theorem Bk.alloc{w:World}{g:Nat}{t:TypeId}{cs:Array Value}(h:Bk w g t cs)(o:Obj):Bk (w.alloc o) g t cs:=(Below.heap_alloc w o g h.lt).trans h
theorem Bk.set_{w:World}{g:Nat}{t:TypeId}{cs:Array Value}(h:Bk w g t cs)(i:Nat)(u:Value):Bk (w.setCell ⟨g,i,none⟩ u) g t (cs.setIfInBounds i u):=by
 unfold Bk at h⊢
 simp[World.setCell,Array.getElem?_modify,h]
theorem Bk.far{w:World}{g:Nat}{t:TypeId}{cs:Array Value}(h:Bk w g t cs){p:Addr}(hp:g≠p.block)(u:Value):Bk (w.setCell p u) g t cs:=(Below.heap_setCell w p u g hp).trans h
theorem Bk.rel{w w':World}{g:Nat}{t:TypeId}{cs:Array Value}(h:Bk w g t cs)(hr:Rel w w'):Bk w' g t cs:=(hr.2.block g h.lt).trans h
theorem Bk.grown{w w':World}{g:Nat}{t:TypeId}{cs:Array Value}(h:Bk w g t cs){row:Option Nat}(hb:w.grownBy w' row)(hg:some g≠row):Bk w' g t cs:=(hb.block g h.lt hg).trans h
theorem Bk.drew{w:World}{g:Nat}{t:TypeId}{cs:Array Value}(h:Bk w g t cs):Bk w.drew g t cs:=h
theorem Bk.ne{w:World}{g g':Nat}{t t':TypeId}{cs cs':Array Value}(h:Bk w g t cs)(h':Bk w g' t' cs')(hne:t≠t'):g≠g':=by
 rintro rfl
 unfold Bk at h h'
 rw[h] at h'
 injection h' with h'
 injection h' with _ ht
 exact hne ht
theorem own_ne{w:World}{base:Nat}{e:TypeId}{size n:Nat}{v:Value}{xs:List Value}{g:Nat}{t:TypeId}{cs:Array Value}(h:w.ownsRow base e size v n xs)(hg:Bk w g t cs)(hne:e≠t):some g≠v.ownBlock:=by
 rcases h.2 with ⟨rfl,_⟩|⟨g',cap,cur,rfl,_,hh,_⟩
 ·simp[Value.ownBlock]
 ·intro he
  have:g=g':=by simpa [Value.ownBlock] using he
  subst this
  exact Bk.ne (t:=e) hh hg hne rfl
theorem Rel.grown{w0 w w':World}(h:Rel w0 w){row:Option Nat}(hg:w.grownBy w' row)(hr:∀k,row=some k→w0.heap.size≤k):Rel w0 w':=⟨h.1,Below.grown h.2 hg h.2.size hr⟩
theorem own_rel{w w':World}{base:Nat}{e:TypeId}{size n:Nat}{v:Value}{xs:List Value}(h:w.ownsRow base e size v n xs)(hr:Rel w w'):w'.ownsRow base e size v n xs:=
 h.kept (row:=none) ⟨hr.2.os,hr.2.tape,hr.2.output,hr.2.size,fun k hk _=>hr.2.block k hk⟩ (by cases v.ownBlock<;>simp)
theorem own_set{w:World}{base:Nat}{e:TypeId}{size n:Nat}{v:Value}{xs:List Value}(h:w.ownsRow base e size v n xs){p:Addr}(hp:some p.block≠v.ownBlock)(u:Value):(w.setCell p u).ownsRow base e size v n xs:=
 h.kept (row:=some p.block) ⟨rfl,rfl,rfl,by simp,fun k hk hne=>Below.heap_setCell w p u k (fun e=>hne (by rw[e]))⟩ (by
  cases hv:v.ownBlock with
  |none=>exact .inl rfl
  |some k=>exact .inr (by rw[hv] at hp;exact Ne.symm hp))
theorem own_slice{w:World}{base:Nat}{e:TypeId}{size n:Nat}{v:Value}{xs:List Value}(h:w.ownsRow base e size v n xs):∃A c,v= .slice A n c∧c≤maxLen:=by
 rcases h.2 with ⟨rfl,rfl⟩|⟨g,cap,cur,rfl,_,_,_,hm,_⟩
 ·exact⟨none,0,rfl,Nat.zero_le _⟩
 ·exact⟨_,cap,rfl,hm⟩
theorem addr_at(g off k:Nat):(⟨g,off,none⟩:Addr).add k=⟨g,off+k,none⟩:=by unfold Addr.add;split<;>simp_all
theorem Bk.two{w:World}{g:Nat}{t:TypeId}{x y:Value}(h:Bk w g t #[x,y]):
  (w.cell? ⟨g,0,none⟩=some x∧w.cell? ⟨g,1,none⟩=some y)∧(w.frozen? ⟨g,0,none⟩=false∧w.frozen? ⟨g,1,none⟩=false):=
 ⟨⟨h.cell 0,h.cell 1⟩,⟨h.frozen 0,h.frozen 1⟩⟩
theorem Bk.put{w:World}{g:Nat}{t:TypeId}{x y:Value}(h:Bk w g t #[x,y])(a b:Value):Bk ((w.setCell ⟨g,0,none⟩ a).setCell ⟨g,1,none⟩ b) g t #[a,b]:=
 (h.set_ 0 a).set_ 1 b
abbrev TK(t:Tok):Value:= .agg #[.int .i64 t.1,.string (B t.2.1),.int .i64 t.2.2.1,.int .i64 t.2.2.2]
def cells4(t:Tok):List Value:=[.int .i64 t.1,.string (B t.2.1),.int .i64 t.2.2.1,.int .i64 t.2.2.2]
def cellsOf(ts:List Tok):List Value:=ts.flatMap cells4
theorem cellsOf_snoc(ts:List Tok)(t:Tok):cellsOf (ts++[t])=cellsOf ts++cells4 t:=by simp[cellsOf]
theorem cellsOf_at(ts:List Tok)(i:Nat)(h:i<ts.length):
  (cellsOf ts)[i*4]?=some (.int .i64 ts[i].1)∧(cellsOf ts)[i*4+1]?=some (.string (B ts[i].2.1))∧(cellsOf ts)[i*4+2]?=some (.int .i64 ts[i].2.2.1)∧(cellsOf ts)[i*4+3]?=some (.int .i64 ts[i].2.2.2):=by
 induction ts generalizing i with
 |nil=>simp at h
 |cons e t ih=>
  have hc:cellsOf (e::t)=cells4 e++cellsOf t:=rfl
  cases i with
  |zero=>rw[hc];exact⟨rfl,rfl,rfl,rfl⟩
  |succ i=>
   obtain⟨h1,h2,h3,h4⟩:=ih i (by simpa using h)
   have l4:(cells4 e).length=4:=rfl
   refine⟨?_, ?_, ?_, ?_⟩
   ·rw[hc,List.getElem?_append_right (by omega),show(i+1)*4-(cells4 e).length=i*4 by omega];exact h1
   ·rw[hc,List.getElem?_append_right (by omega),show(i+1)*4+1-(cells4 e).length=i*4+1 by omega];exact h2
   ·rw[hc,List.getElem?_append_right (by omega),show(i+1)*4+2-(cells4 e).length=i*4+2 by omega];exact h3
   ·rw[hc,List.getElem?_append_right (by omega),show(i+1)*4+3-(cells4 e).length=i*4+3 by omega];exact h4
def ToksAt(w:World)(A:Option Addr)(ts:List Tok):Prop:=
 ∀i (h:i<ts.length),∃(g off:Nat),A=some ⟨g,off,none⟩∧g<w.heap.size∧w.cell? ⟨g,off+i*4,none⟩=some (.int .i64 ts[i].1)∧w.cell? ⟨g,off+i*4+1,none⟩=some (.string (B ts[i].2.1))∧
  w.cell? ⟨g,off+i*4+2,none⟩=some (.int .i64 ts[i].2.2.1)∧w.cell? ⟨g,off+i*4+3,none⟩=some (.int .i64 ts[i].2.2.2)
theorem ToksAt.nil(w:World)(A:Option Addr):ToksAt w A []:=fun i h=>absurd h (by simp)
theorem ToksAt.below{w w':World}{A:Option Addr}{ts:List Tok}(h:ToksAt w A ts)(hb:Below w.heap.size w w'):ToksAt w' A ts:=by
 intro i hi
 obtain⟨g,off,e,hl,h0,h1,h2,h3⟩:=h i hi
 have hk:∀j,w'.cell? ⟨g,j,none⟩=w.cell? ⟨g,j,none⟩:=fun j=>hb.cell (p:=⟨g,j,none⟩) hl
 exact⟨g,off,e,by have:=hb.size;omega,by rw[hk];exact h0,by rw[hk];exact h1,by rw[hk];exact h2,by rw[hk];exact h3⟩
theorem ToksAt.rel{w w':World}{A:Option Addr}{ts:List Tok}(h:ToksAt w A ts)(hr:Rel w w'):ToksAt w' A ts:=h.below hr.2
def TokOwn(w:World)(base:Nat)(v:Value)(ts:List Tok):Prop:=w.ownsRow base 78 4 v ts.length (cellsOf ts)
theorem TokOwn.nil(w:World)(base:Nat):TokOwn w base (.slice none 0 0) []:=World.ownsRow_nil _ _ _ _
theorem TokOwn.rel{w w':World}{base:Nat}{v:Value}{ts:List Tok}(h:TokOwn w base v ts)(hr:Rel w w'):TokOwn w' base v ts:=own_rel h hr
theorem TokOwn.toks{w:World}{base:Nat}{A:Option Addr}{n c:Nat}{ts:List Tok}(h:TokOwn w base (.slice A n c) ts)(hn:n=ts.length):ToksAt w A ts:=by
 intro i hi
 have h:w.ownsRow base 78 4 (.slice A n c) ts.length (cellsOf ts):=h
 rcases h.2 with ⟨h0,h1⟩|⟨g,cap,cur,hv,hb,hh,_⟩
 ·omega
 ·have hA:A=some ⟨g,0,none⟩:=by injection hv
  obtain⟨c0,c1,c2,c3⟩:=cellsOf_at ts i hi
  have hc:=h.cells (g:=g) (by rw[hA];rfl)
  have q0:=hc _ _ c0
  have q1:=hc _ _ c1
  have q2:=hc _ _ c2
  have q3:=hc _ _ c3
  rw[addr_at] at q0 q1 q2 q3
  refine⟨g,0,hA,Bk.lt (t:=78) hh, ?_, ?_, ?_, ?_⟩
  ·exact q0
  ·rw[Nat.add_assoc];exact q1
  ·rw[Nat.add_assoc];exact q2
  ·rw[Nat.add_assoc];exact q3
theorem TokOwn.more{w1:World}{base g cap:Nat}{ts:List Tok}{t:Tok}
  (hown1:w1.ownsRow base 78 4 (.slice (some ⟨g,0,none⟩) (ts.length+1) cap) (ts.length+1) (cellsOf ts++cells4 t)):TokOwn w1 base (.slice (some ⟨g,0,none⟩) (ts.length+1) cap) (ts++[t]):=by
 unfold TokOwn
 rw[cellsOf_snoc,show(ts++[t]).length=ts.length+1 by simp];exact hown1
theorem tok_info:(Tryz.prog.info? 78).map (fun i=>(i.zero,i.size,i.bytes))=some (some (.agg #[.int .i64 0,.string ⟨#[]⟩,.int .i64 0,.int .i64 0]),4,40):=by kernel_rfl
theorem cells4_one(t:Tok):∀u∈cells4 t,u.oneCell'=true:=by
 intro u hu
 simp only[cells4,List.mem_cons,List.not_mem_nil,or_false] at hu
 rcases hu with rfl|rfl|rfl|rfl<;>rfl
def PairsAt(w:World)(A:Option Addr)(zs:List (Int×Int)):Prop:=
 ∀i (h:i<zs.length),∃(a:Addr),A=some a∧a.block<w.heap.size∧w.cell? (a.add (i*2))=some (.int .i64 zs[i].1)∧w.cell? (a.add (i*2+1))=some (.int .i64 zs[i].2)
def PairsIn(w:World)(A:Option Addr)(n:Nat)(zs:List (Int×Int)):Prop:=zs.length=n∧n≤9223372036854775807∧(∀z∈zs,(-9223372036854775808≤z.1∧z.1≤9223372036854775807)∧(-9223372036854775808≤z.2∧z.2≤9223372036854775807))∧PairsAt w A zs
theorem Bk.four{w:World}{g:Nat}{t:TypeId}{x y z u:Value}(h:Bk w g t #[x,y,z,u]):
  (w.cell? ⟨g,0,none⟩=some x∧w.cell? ⟨g,1,none⟩=some y∧w.cell? ⟨g,2,none⟩=some z∧w.cell? ⟨g,3,none⟩=some u)∧(w.frozen? ⟨g,0,none⟩=false∧w.frozen? ⟨g,1,none⟩=false∧w.frozen? ⟨g,2,none⟩=false∧w.frozen? ⟨g,3,none⟩=false):=
 ⟨⟨h.cell 0,h.cell 1,h.cell 2,h.cell 3⟩,⟨h.frozen 0,h.frozen 1,h.frozen 2,h.frozen 3⟩⟩
theorem Bk.put4{w:World}{g:Nat}{t:TypeId}{x y z u:Value}(h:Bk w g t #[x,y,z,u])(a b c d:Value):Bk ((((w.setCell ⟨g,0,none⟩ a).setCell ⟨g,1,none⟩ b).setCell ⟨g,2,none⟩ c).setCell ⟨g,3,none⟩ d) g t #[a,b,c,d]:=
 (((h.set_ 0 a).set_ 1 b).set_ 2 c).set_ 3 d
theorem Bk.snd(w:World)(cs cs':Array Value)(t t':TypeId):Bk ((w.alloc (.cells cs t)).alloc (.cells cs' t')) (w.heap.size+1) t' cs':=by
 have h:=Bk.new (w.alloc (.cells cs t)) t' cs'
 rw[World.size_alloc] at h
 exact h
theorem Rel.put4{w0 w:World}(h:Rel w0 w){g:Nat}(hg:w0.heap.size≤g)(a b c d:Value):Rel w0 ((((w.setCell ⟨g,0,none⟩ a).setCell ⟨g,1,none⟩ b).setCell ⟨g,2,none⟩ c).setCell ⟨g,3,none⟩ d):=
 (((h.setCell hg a).setCell hg b).setCell hg c).setCell hg d
abbrev TB(w:World)(g:Nat)(t:Tok):Prop:=Bk w g 78 #[.int .i64 t.1,.string (B t.2.1),.int .i64 t.2.2.1,.int .i64 t.2.2.2]
abbrev El:=Int×Int×List UInt8×Option Addr×Nat×Nat
abbrev EV(e:El):Value:= .agg #[.int .i64 e.1,.int .i64 e.2.1,.string (B e.2.2.1),.slice e.2.2.2.1 e.2.2.2.2.1 e.2.2.2.2.2]
def cellsE(e:El):List Value:=[.int .i64 e.1,.int .i64 e.2.1,.string (B e.2.2.1),.slice e.2.2.2.1 e.2.2.2.2.1 e.2.2.2.2.2]
def cellsEs(es:List El):List Value:=es.flatMap cellsE
theorem cellsEs_snoc(es:List El)(e:El):cellsEs (es++[e])=cellsEs es++cellsE e:=by simp[cellsEs]
theorem cellsEs_at(es:List El)(i:Nat)(h:i<es.length):
  (cellsEs es)[i*4]?=some (.int .i64 es[i].1)∧(cellsEs es)[i*4+1]?=some (.int .i64 es[i].2.1)∧(cellsEs es)[i*4+2]?=some (.string (B es[i].2.2.1))∧(cellsEs es)[i*4+3]?=some (.slice es[i].2.2.2.1 es[i].2.2.2.2.1 es[i].2.2.2.2.2):=by
 induction es generalizing i with
 |nil=>simp at h
 |cons e t ih=>
  have hc:cellsEs (e::t)=cellsE e++cellsEs t:=rfl
  cases i with
  |zero=>rw[hc];exact⟨rfl,rfl,rfl,rfl⟩
  |succ i=>
   obtain⟨h1,h2,h3,h4⟩:=ih i (by simpa using h)
   have l4:(cellsE e).length=4:=rfl
   refine⟨?_, ?_, ?_, ?_⟩
   ·rw[hc,List.getElem?_append_right (by omega),show(i+1)*4-(cellsE e).length=i*4 by omega];exact h1
   ·rw[hc,List.getElem?_append_right (by omega),show(i+1)*4+1-(cellsE e).length=i*4+1 by omega];exact h2
   ·rw[hc,List.getElem?_append_right (by omega),show(i+1)*4+2-(cellsE e).length=i*4+2 by omega];exact h3
   ·rw[hc,List.getElem?_append_right (by omega),show(i+1)*4+3-(cellsE e).length=i*4+3 by omega];exact h4
def RowE(S:Nat→Prop)(w:World)(A:Option Addr)(es:List El):Prop:=
 ∀i (h:i<es.length),∃(g off:Nat),A=some ⟨g,off,none⟩∧g<w.heap.size∧S g∧w.cell? ⟨g,off+i*4,none⟩=some (.int .i64 es[i].1)∧w.cell? ⟨g,off+i*4+1,none⟩=some (.int .i64 es[i].2.1)∧
  w.cell? ⟨g,off+i*4+2,none⟩=some (.string (B es[i].2.2.1))∧w.cell? ⟨g,off+i*4+3,none⟩=some (.slice es[i].2.2.2.1 es[i].2.2.2.2.1 es[i].2.2.2.2.2)
theorem RowE.mono{S S':Nat→Prop}{w w':World}{A:Option Addr}{es:List El}(h:RowE S w A es)(hs:w.heap.size≤w'.heap.size)(hm:∀g,S g→g<w.heap.size→S' g∧w'.heap[g]?=w.heap[g]?):RowE S' w' A es:=by
 intro i hi
 obtain⟨g,off,e,hl,hS,h0,h1,h2,h3⟩:=h i hi
 obtain⟨hS',hb⟩:=hm g hS hl
 have hk:∀j,w'.cell? ⟨g,j,none⟩=w.cell? ⟨g,j,none⟩:=fun j=>World.cell?_of_block (a:=⟨g,j,none⟩) hb
 exact⟨g,off,e,by omega,hS',by rw[hk];exact h0,by rw[hk];exact h1,by rw[hk];exact h2,by rw[hk];exact h3⟩
def i64(n:Int):Prop:= -9223372036854775808≤n∧n≤9223372036854775807
inductive ExAt (S:Nat→Prop) (w:World):El→Ex→Prop where
 |mk (k n:Int) (nm:List UInt8) (A:Option Addr) (c:Nat) (l:List Ex) (es:List El) (hk:i64 k) (hn:i64 n) (hm:nm.length≤100) (hl:es.length=l.length) (hrow:RowE S w A es)
   (hsub:∀i (h:i<es.length) (h':i<l.length),ExAt S w es[i] l[i]):ExAt S w (k,n,nm,A,l.length,c) (.mk k n nm l)
theorem ExAt.mono{S S':Nat→Prop}{w w':World}(hs:w.heap.size≤w'.heap.size)(hm:∀g,S g→g<w.heap.size→S' g∧w'.heap[g]?=w.heap[g]?){e:El}{x:Ex}(h:ExAt S w e x):ExAt S' w' e x:=by
 induction h with
 |mk k n nm A c l es hk hn hm' hl hrow hsub ih=>exact .mk k n nm A c l es hk hn hm' hl (hrow.mono hs hm) ih
theorem ExAt.rel{S:Nat→Prop}{w w':World}{e:El}{x:Ex}(h:ExAt S w e x)(hr:Rel w w'):ExAt S w' e x:=h.mono hr.size fun g hS hl=>⟨hS,hr.2.block g hl⟩
theorem ExAt.weak{S S':Nat→Prop}{w:World}{e:El}{x:Ex}(h:ExAt S w e x)(hm:∀g,S g→S' g):ExAt S' w e x:=h.mono (Nat.le_refl _) fun g hS _=>⟨hm g hS,rfl⟩
theorem ExAt.open{S:Nat→Prop}{w:World}{k n:Int}{nm:List UInt8}{l:List Ex}{e:El}(h:ExAt S w e (.mk k n nm l)):∃A c es,e=(k,n,nm,A,l.length,c)∧i64 k∧i64 n∧nm.length≤100∧es.length=l.length∧RowE S w A es∧∀i (h:i<es.length) (h':i<l.length),ExAt S w es[i] l[i]:=by
 cases h with
 |mk k n nm A c l es hk hn hm hl hrow hsub=>exact⟨A,c,es,rfl,hk,hn,hm,hl,hrow,hsub⟩
theorem RowE.nil(S:Nat→Prop)(w:World)(A:Option Addr):RowE S w A []:=fun i h=>absurd h (by simp)
theorem ExAt.leaf(S:Nat→Prop)(w:World)(k n:Int)(nm:List UInt8)(A:Option Addr)(c:Nat)(hk:i64 k)(hn:i64 n)(hm:nm.length≤100):ExAt S w (k,n,nm,A,0,c) (.mk k n nm []):=
 .mk k n nm A c [] [] hk hn hm rfl (RowE.nil _ _ _) fun i h=>absurd h (by simp)
theorem ExAt.grown{S S':Nat→Prop}{w w':World}{b:Option Nat}{e:El}{x:Ex}(h:ExAt S w e x)(hg:w.grownBy w' b)(hS:∀k,S k→S' k∧some k≠b):ExAt S' w' e x:=h.mono hg.size fun k hk hl=>⟨(hS k hk).1,hg.block k hl (hS k hk).2⟩
theorem RowE.of_bk{S:Nat→Prop}{w:World}{g:Nat}{es:List El}(h:Bk w g 52 (cellsEs es).toArray)(hS:S g):RowE S w (some ⟨g,0,none⟩) es:=by
 intro i hi
 obtain⟨c0,c1,c2,c3⟩:=cellsEs_at es i hi
 refine⟨g,0,rfl,h.lt,hS, ?_, ?_, ?_, ?_⟩
 ·rw[Nat.zero_add,h.cell,List.getElem?_toArray];exact c0
 ·rw[Nat.zero_add,h.cell,List.getElem?_toArray];exact c1
 ·rw[Nat.zero_add,h.cell,List.getElem?_toArray];exact c2
 ·rw[Nat.zero_add,h.cell,List.getElem?_toArray];exact c3
theorem ExAt.two{S:Nat→Prop}{w:World}{k n:Int}{nm:List UInt8}{g c:Nat}{a b:El}{x y:Ex}(hk:i64 k)(hn:i64 n)(hm:nm.length≤100)(h:Bk w g 52 (cellsEs [a,b]).toArray)(hS:S g)(hx:ExAt S w a x)(hy:ExAt S w b y):
  ExAt S w (k,n,nm,some ⟨g,0,none⟩,2,c) (.mk k n nm [x,y]):=
 .mk k n nm _ c [x,y] [a,b] hk hn hm rfl (RowE.of_bk h hS) fun i h h'=>by
  match i,h,h' with
  |0,_,_=>exact hx
  |1,_,_=>exact hy
def ElsOwn(w:World)(base:Nat)(v:Value)(es:List El):Prop:=w.ownsRow base 52 4 v es.length (cellsEs es)
theorem ElsOwn.toks{S:Nat→Prop}{w:World}{base:Nat}{A:Option Addr}{n c:Nat}{es:List El}(h:ElsOwn w base (.slice A n c) es)(hn:n=es.length)(hS:∀j,(Value.slice A n c).ownBlock=some j→S j):RowE S w A es:=by
 intro i hi
 have h:w.ownsRow base 52 4 (.slice A n c) es.length (cellsEs es):=h
 rcases h.2 with ⟨h0,h1⟩|⟨g,cap,cur,hv,hb,hh,_⟩
 ·omega
 ·have hA:A=some ⟨g,0,none⟩:=by injection hv
  obtain⟨c0,c1,c2,c3⟩:=cellsEs_at es i hi
  have hc:=h.cells (g:=g) (by rw[hA];rfl)
  have q0:=hc _ _ c0
  have q1:=hc _ _ c1
  have q2:=hc _ _ c2
  have q3:=hc _ _ c3
  rw[addr_at] at q0 q1 q2 q3
  refine⟨g,0,hA,Bk.lt (t:=52) hh,hS g (by rw[hA];rfl), ?_, ?_, ?_, ?_⟩
  ·exact q0
  ·rw[Nat.add_assoc];exact q1
  ·rw[Nat.add_assoc];exact q2
  ·rw[Nat.add_assoc];exact q3
theorem ex_info:(Tryz.prog.info? 52).map (fun i=>(i.zero,i.size,i.bytes))=some (some (.agg #[.int .i64 0,.int .i64 0,.string ⟨#[]⟩,.slice none 0 0]),4,56):=by kernel_rfl
theorem cellsE_one(e:El):∀u∈cellsE e,u.oneCell'=true:=by
 intro u hu
 simp only[cellsE,List.mem_cons,List.not_mem_nil,or_false] at hu
 rcases hu with rfl|rfl|rfl|rfl<;>rfl
def SrcAt(w:World)(g:Nat)(L:List Int):Prop:=
 ∃(A:Option Addr) (c:Nat),Bk w g 68 #[.slice A L.length c]∧L.length≤c∧c≤maxLen∧(∀z∈L,i64 z)∧∀i (h:i<L.length),∃a:Addr,A=some a∧a.block<g∧w.cell? (a.add i)=some (.int .i64 L[i])
theorem SrcAt.grown{w w':World}{g:Nat}{L:List Int}(h:SrcAt w g L){b:Option Nat}(hg:w.grownBy w' b)(hb:∀k,b=some k→g<k):SrcAt w' g L:=by
 obtain⟨A,c,hbk,h1,h2,h3,h4⟩:=h
 have hgl:=hbk.lt
 refine⟨A,c,hbk.grown hg (fun e=>by have:=hb g e.symm;omega),h1,h2,h3,fun i hi=> ?_⟩
 obtain⟨a,e,hl,hc⟩:=h4 i hi
 refine⟨a,e,hl, ?_⟩
 have hk:w'.heap[(a.add i).block]?=w.heap[(a.add i).block]?:=by rw[block_add];exact hg.block _ (by omega) (fun e=>by have:=hb _ e.symm;omega)
 exact(World.cell?_of_block hk).trans hc
theorem grown_rel{w w':World}(r:Option Nat)(h:Rel w w'):w.grownBy w' r:=⟨h.2.os,h.2.tape,h.2.output,h.2.size,fun k hk _=>h.2.block k hk⟩
theorem SrcAt.rel{w w':World}{g:Nat}{L:List Int}(h:SrcAt w g L)(hr:Rel w w'):SrcAt w' g L:=h.grown (grown_rel none hr) (fun k e=>by cases e)
theorem grown_trans{w w' w'':World}{r:Option Nat}(h:w.grownBy w' r)(h':w'.grownBy w'' r):w.grownBy w'' r:=
 ⟨h'.os.trans h.os,h'.tape.trans h.tape,h'.output.trans h.output,Nat.le_trans h.size h'.size,fun k hk hn=>(h'.block k (Nat.lt_of_lt_of_le hk h.size) hn).trans (h.block k hk hn)⟩
theorem grown_of{w w' w'':World}{r:Option Nat}(h:w.grownBy w' r){b:Option Nat}(h':w'.grownBy w'' b)(hb:∀k,b=some k→w.heap.size≤k):w.grownBy w'' r:=
 ⟨h'.os.trans h.os,h'.tape.trans h.tape,h'.output.trans h.output,Nat.le_trans h.size h'.size,fun k hk hn=>(h'.block k (Nat.lt_of_lt_of_le hk h.size) (fun e=>by have:=hb k e.symm;omega)).trans (h.block k hk hn)⟩
theorem set_grown(w:World)(b i:Nat)(v:Value):w.grownBy (w.setCell ⟨b,i,none⟩ v) (some b):=
 ⟨rfl,rfl,rfl,by rw[World.size_setCell];exact Nat.le_refl _,fun k _ hk=>Below.heap_setCell w ⟨b,i,none⟩ v k (fun e=>hk (by rw[e]))⟩
theorem put4_grown(w:World)(b:Nat)(x y z u:Value):w.grownBy ((((w.setCell ⟨b,0,none⟩ x).setCell ⟨b,1,none⟩ y).setCell ⟨b,2,none⟩ z).setCell ⟨b,3,none⟩ u) (some b):=
 grown_trans (grown_trans (grown_trans (set_grown w b 0 x) (set_grown _ b 1 y)) (set_grown _ b 2 z)) (set_grown _ b 3 u)
theorem SrcAt.lt{w:World}{g:Nat}{L:List Int}(h:SrcAt w g L):g<w.heap.size:=by
 obtain⟨_,_,hb,_⟩:=h;exact hb.lt
theorem pk_as(c n y:Int)(h:Hid (pk c n=y))(hc: -9223372036854775808≤c)(hc':c≤9223372036854775807)(hn:0<n)(hn':n≤9223372036854775807)(w:World):
  Calls Tryz.prog 72 #[.int .i64 c,.int .i64 n] w fun e w'=>e= .returned (.int .i64 y)∧w=w':=by
 rw[←h.out]
 by_cases h:c<0
 all_goals
  go_enter Tryz.func72,Tryz.ntmps72
  go_wp2
  all_goals
   go_ret
   exact⟨ret_int (by unfold pk;split<;>first|rfl|omega),rfl⟩
theorem addr_zero(a:Addr):a.add 0=a:=by
 obtain⟨b,o,p⟩:=a
 cases p<;>simp[Addr.add]
theorem add_next(a:Addr)(n:Nat):a.add (n+1)=⟨(a.add n).block,(a.add n).off+1,none⟩:=by
 unfold Addr.add
 by_cases h:n=0
 ·subst h;simp
 ·simp[h];omega
theorem src_next{w:World}{g:Nat}{z:Int}{t:List Int}{a:Addr}{c:Nat}(hb:Bk w g 68 #[.slice (some a) (z::t).length c])(h3:∀z'∈z::t,i64 z')
  (h4:∀i (h:i<(z::t).length),∃a':Addr,some a=some a'∧a'.block<g∧w.cell? (a'.add i)=some (.int .i64 (z::t)[i])) (a':Addr) (c':Nat) (hA:t=[]∨a'=a.add 1) (hc:t.length≤c') (hc':c'≤maxLen):
  SrcAt (w.setCell ⟨g,0,none⟩ (.slice (some a') t.length c')) g t∧w.grownBy (w.setCell ⟨g,0,none⟩ (.slice (some a') t.length c')) (some g)∧(w.setCell ⟨g,0,none⟩ (.slice (some a') t.length c')).heap.size=w.heap.size:=by
 refine⟨⟨some a',c',hb.set_ 0 _,hc,hc',fun z' hz=>h3 z' (List.mem_cons_of_mem _ hz),fun i hi=> ?_⟩,⟨rfl,rfl,rfl,by rw[World.size_setCell];exact Nat.le_refl _,fun k _ hk=>Below.heap_setCell w ⟨g,0,none⟩ _ k (fun e=>hk (by rw[e]))⟩,World.size_setCell ..⟩
 have hi':i+1<(z::t).length:=by simpa using hi
 obtain⟨b,e,hl,hcell⟩:=h4 (i+1) hi'
 cases e
 rcases hA with rfl|rfl
 ·simp at hi
 ·refine⟨_,rfl,by rw[block_add];exact hl, ?_⟩
  rw[Addr.add_add,Nat.add_comm 1 i]
  have hk:(w.setCell ⟨g,0,none⟩ (.slice (some (a.add 1)) t.length c')).heap[(a.add (i+1)).block]?=w.heap[(a.add (i+1)).block]?:=Below.heap_setCell w ⟨g,0,none⟩ _ _ (by rw[block_add];simp only;omega)
  rw[World.cell?_of_block hk]
  exact hcell
theorem next_any(g:Nat)(L:List Int)(n:Int)(hn:0<n)(hn':n≤9223372036854775807)(w:World)(h:SrcAt w g L):
  Calls Tryz.prog 52 #[.pointer (some ⟨g,0,none⟩),.int .i64 n] w fun e w'=>e= .returned (.int .i64 (nx n L).1)∧SrcAt w' g (nx n L).2∧w.grownBy w' (some g)∧w'.heap.size=w.heap.size:=by
 obtain⟨A,c,hb,h1,h2,h3,h4⟩:=h
 have c0:=hb.cell 0
 have f0:=hb.frozen 0
 have HB:=yH hb
 have H4:=yH h4
 have HG:Hid (w.grownBy w (some g)):=yH ⟨rfl,rfl,rfl,Nat.le_refl _,fun _ _ _=>rfl⟩
 simp only[List.getElem?_toArray,List.getElem?_cons_zero] at c0
 clear hb h4
 cases L with
 |nil=>
  have H3:=yH h3
  clear h3
  go_enter Tryz.func52,Tryz.ntmps52
  go_wp2_with (fail)
  go_ret
  exact⟨rfl,⟨A,c,HB.out,h1,h2,H3.out,H4.out⟩,HG.out,rfl⟩
 |cons z t=>
  obtain⟨a,rfl,hl,hc⟩:=H4.out 0 (by simp)
  have hne:a.block≠g:=by omega
  obtain⟨y,hy⟩:∃y,pk z n=y:=⟨_,rfl⟩
  have HY:=yH hy
  have hz:=h3 z (List.mem_cons_self ..)
  have H3:=yH h3
  rw[addr_zero] at hc
  have HA1:=yH (show(⟨a.block,a.off+1,none⟩:Addr)=a.add 1 by rw[add_next a 0,addr_zero])
  have z0:=hz.1
  have z1:=hz.2
  simp only[List.length_cons,List.getElem_cons_zero] at h1 hc c0
  clear hy hz h3
  go_enter Tryz.func52,Tryz.ntmps52
  go_wp2_with (go_at_call 72;(with_reducible refine(pk_as z n y HY z0 z1 hn hn' _).mono ?_);rintro e w' ⟨rfl,rfl⟩)
  all_goals
   go_ret
   refine⟨ret_int HY.out.symm, ?_⟩
   first
    |exact src_next HB.out H3.out H4.out _ _ (.inr HA1.out) (by omega) (by omega)
    |exact src_next HB.out H3.out H4.out _ _ (.inl (List.length_eq_zero_iff.1 (by omega))) (by omega) (by omega)
theorem pick_as(c n y:Int)(h:Hid (pk c n=y))(hc: -9223372036854775808≤c)(hc':c≤9223372036854775807)(hn:0<n)(hn':n≤9223372036854775807)(w:World):
  Calls Tryz.prog 43 #[.int .i64 c,.int .i64 n] w fun e w'=>e= .returned (.int .i64 y)∧w=w':=by
 rw[←h.out];exact pick_any c n hc hc' hn hn' w
theorem decimal_as(n:Int)(S:ByteArray)(h:Hid (B (decDigits n.toNat)=S))(h0:0≤n)(h1:n≤9223372036854775807)(w0 w:World)(hr:Rel w0 w):
  Calls Tryz.prog 44 #[.int .i64 n] w fun e w'=>e= .returned (.string S)∧Rel w0 w':=by
 rw[←h.out];exact decimal_any n h0 h1 w0 w hr
def strCells(ls:List (List UInt8)):Array Value:=(ls.map fun l=>Value.string (B l)).toArray
theorem str_cell{w:World}{g:Nat}{ls:List (List UInt8)}(h:Bk w g 9 (strCells ls))(j:Nat)(hj:j<ls.length):w.cell? ⟨g,j,none⟩=some (.string (B (ls.getD j []))):=by
 rw[h.cell]
 unfold strCells
 rw[List.getElem?_toArray,List.getElem?_map,List.getElem?_eq_getElem hj,List.getD_eq_getElem?_getD,List.getElem?_eq_getElem hj]
 rfl
theorem nam_cell(w:World)(j:Nat)(hj:j<6):(w.alloc (.cells #[.string ⟨#[97]⟩,.string ⟨#[98,111,98]⟩,.string ⟨#[108,111,119,101,115]⟩,.string ⟨#[97,99,109,101,57]⟩,.string ⟨#[120,49]⟩,.string ⟨#[101,108,115,101,101]⟩] 9)).cell? ⟨w.heap.size,j,none⟩=some (.string (B (theNames.getD j []))):=
 str_cell (ls:=theNames) (Bk.new w 9 (strCells theNames)) j hj
theorem nam_after{w w':World}(hr:Rel (w.alloc (.cells #[.string ⟨#[97]⟩,.string ⟨#[98,111,98]⟩,.string ⟨#[108,111,119,101,115]⟩,.string ⟨#[97,99,109,101,57]⟩,.string ⟨#[120,49]⟩,.string ⟨#[101,108,115,101,101]⟩] 9)).drew w')(j:Nat)(hj:j<6)(X:ByteArray)(hX:B (theNames.getD j [])=X):w'.cell? ⟨w.heap.size,j,none⟩=some (.string X):=by
 rw[←hX]
 exact str_cell (ls:=theNames) (Bk.rel (w:=(w.alloc (.cells (strCells theNames) 9)).drew) (Bk.new w 9 (strCells theNames)) hr) j hj
theorem seller_any(n:Int)(h0: -9223372036854775808≤n)(h1:n≤9223372036854775807)(w0 w:World)(hr:Rel w0 w):
  Calls Tryz.prog 26 #[.int .i64 n] w fun e w'=>e= .returned (.string (B (sellerL (pk n 60))))∧Rel w0 w':=by
 have hb:=pk_bd n 60 (by omega)
 obtain⟨u,hu⟩:∃u,pk n 60=u:=⟨_,rfl⟩
 rw[hu] at hb⊢
 have HU:=yH hu
 obtain⟨u0,u1⟩:=hb
 have t6:=tdt u 6 (by omega)
 obtain⟨a,ha⟩:∃a:Nat,u.tmod 6=(a:Int):=⟨(u.tmod 6).toNat,by omega⟩
 obtain⟨b,hq'⟩:∃b:Nat,u.tdiv 6=(b:Int):=⟨(u.tdiv 6).toNat,by omega⟩
 have hq:IntKind.i64.wrap (u.tdiv 6)=(b:Int):=by rw[hq'];exact IntWalk.i64_in _ (by omega)
 have a6:a<6:=by omega
 have a6':(a:Int)<6:=by omega
 have b9:(b:Int)≤10:=by omega
 obtain⟨X,hX⟩:∃X,B (theNames.getD a [])=X:=⟨_,rfl⟩
 have hc:=fun w=>nam_cell w a a6
 obtain⟨D,hD⟩:∃D,B (decDigits ((b:Int)).toNat)=D:=⟨_,rfl⟩
 have HD:=yH hD
 have z1:X.size≤5:=by rw[←hX,B_size];exact names_len ⟨a,a6⟩
 have z2:D.size≤19:=by rw[←hD];exact dd_size _ (by omega)
 have z3: ¬9223372036854775807<X.size+D.size:=by omega
 have HF:=yH (show X++D=B (sellerL u) by
  unfold sellerL
  rw[←hX,←hD,B_append,show u%6=(a:Int) by omega,show u/6=(b:Int) by omega];rfl)
 have HX:=yH hX
 rw[hX] at hc
 have HR:=yH hr
 clear hu hX hD t6 hq'
 go_enter Tryz.func26,Tryz.ntmps26
 go_wp2_with (go_at_call 43;(with_reducible refine(pick_as n 60 u HU h0 h1 (by omega) (by omega) _).mono ?_);rintro e w' ⟨rfl,rfl⟩)
 have HS:=yH hr.self
 go_region_law (rw[if_pos (by rfl)];go_simp;go_at_call 44;(with_reducible refine(decimal_as (b:Int) D HD (by omega) (by omega) _ _ (by first|exact HS.out.drew.self|exact(HS.out.drew.alloc _).self|exact((HS.out.alloc _).drew).self)).mono ?_);rintro e w' ⟨rfl,hr'⟩;try(have cx:=nam_after hr' a a6 X HX.out))
 all_goals
  go_wp2_with (fail)
  go_ret
  refine⟨ret_str HF.out, ?_⟩
  first
   |exact(HR.out.alloc _).drew.trans hr'
   |exact(HR.out.drew.trans hr').alloc _
end Go.Proofs.YtfekhbeaphpelaaGreatDoor
