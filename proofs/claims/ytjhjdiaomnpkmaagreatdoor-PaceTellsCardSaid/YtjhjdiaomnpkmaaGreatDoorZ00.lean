/- Plain mathematics of layer 2. -/
import Derived.Test.YtjhjdiaomnpkmaaGreatDoorZL

set_option maxRecDepth 100000
set_option maxHeartbeats 8000000
set_option linter.unusedVariables false
set_option linter.unusedSimpArgs false
namespace Go.Proofs.YtjhjdiaomnpkmaaGreatDoor
open Go.Lib
def isD(c:UInt8):Bool:=decide (48≤c.toNat∧c.toNat≤57)
def val:List UInt8→Int→Int
 |[],n=>n
 |c::t,n=>val t (n*10+((c.toNat:Int)-48))
def digs(most:Int):List UInt8→Int→Int
 |[],n=>n
 |c::t,n=>if isD c then (if most<n*10+((c.toNat:Int)-48) then -1 else digs most t (n*10+((c.toNat:Int)-48))) else -1
def allD(l:List UInt8):Bool:=l.all isD
def cano(l:List UInt8):Bool:= !l.isEmpty&&allD l&&(l.length==1||l.head? !=some 48)
def cnt(l:List UInt8)(most:Int):Int:=if cano l&&decide (val l 0≤min most 1000000000000) then val l 0 else -1
theorem isD_iff{c:UInt8}:isD c=true↔48≤c.toNat∧c.toNat≤57:=by simp[isD]
theorem allD_cons{c:UInt8}{t:List UInt8}:allD (c::t)=(isD c&&allD t):=rfl
theorem allD_append{a b:List UInt8}:allD (a++b)=(allD a&&allD b):=by simp[allD]
theorem val_append(a b:List UInt8)(n:Int):val (a++b) n=val b (val a n):=by
 induction a generalizing n with
 |nil=>rfl
 |cons c t ih=>simp only[List.cons_append,val,ih]
theorem val_ge{l:List UInt8}(h:allD l=true){n:Int}(hn:0≤n):n≤val l n:=by
 induction l generalizing n with
 |nil=>simp[val]
 |cons c t ih=>
  rw[allD_cons,Bool.and_eq_true] at h
  have hc:=isD_iff.1 h.1
  have:=ih h.2 (n:=n*10+((c.toNat:Int)-48)) (by omega)
  simp only[val];omega
theorem val_lt{l:List UInt8}(h:allD l=true){n:Int}(hn:0≤n):val l n<(n+1)*10^l.length:=by
 induction l generalizing n with
 |nil=>simp[val];omega
 |cons c t ih=>
  rw[allD_cons,Bool.and_eq_true] at h
  have hc:=isD_iff.1 h.1
  have:=ih h.2 (n:=n*10+((c.toNat:Int)-48)) (by omega)
  simp only[val,List.length_cons]
  have hp:(0:Int)<10^t.length:=Int.pow_pos (by omega)
  have h2:(n*10+((c.toNat:Int)-48)+1)*10^t.length≤((n+1)*10)*10^t.length:=Int.mul_le_mul_of_nonneg_right (by omega) (by omega)
  rw[Int.pow_succ,Int.mul_comm (10^t.length) 10,←Int.mul_assoc]
  omega
theorem val_ge_pow{l:List UInt8}(h:allD l=true){n:Int}(hn:1≤n):10^l.length≤val l n:=by
 induction l generalizing n with
 |nil=>simpa [val] using hn
 |cons c t ih=>
  rw[allD_cons,Bool.and_eq_true] at h
  have hc:=isD_iff.1 h.1
  simp only[val,List.length_cons]
  have key:∀(t:List UInt8)(m k:Int),allD t=true→0≤m→0≤k→val t m+k*10^t.length=val t (m+k):=by
   intro t
   induction t with
   |nil=>intro m k _ _ _;simp[val]
   |cons d t ih2=>
    intro m k hd hm hk
    rw[allD_cons,Bool.and_eq_true] at hd
    have hdd:=isD_iff.1 hd.1
    simp only[val,List.length_cons]
    have:=ih2 (m*10+((d.toNat:Int)-48)) (k*10) hd.2 (by omega) (by omega)
    rw[show(m+k)*10+((d.toNat:Int)-48)=m*10+((d.toNat:Int)-48)+k*10 by omega,←this,Int.pow_succ]
    rw[Int.mul_comm (10^t.length) 10,←Int.mul_assoc]
  have k1:=key t 0 10 h.2 (by omega) (by omega)
  have k2:=key t 10 (n*10+((c.toNat:Int)-48)-10) h.2 (by omega) (by omega)
  rw[show(10:Int)+(n*10+((c.toNat:Int)-48)-10)=n*10+((c.toNat:Int)-48) by omega] at k2
  have hp:(0:Int)≤(n*10+((c.toNat:Int)-48)-10)*10^t.length:=Int.mul_nonneg (by omega) (Int.le_of_lt (Int.pow_pos (by omega)))
  have hv:=val_ge h.2 (n:=0) (by omega)
  rw[show(0:Int)+10=10 by omega] at k1
  rw[Int.pow_succ,Int.mul_comm]
  omega
theorem digs_eq(most:Int)(l:List UInt8):∀n:Int,0≤n→digs most l n=if allD l&&(l.isEmpty||decide (val l n≤most)) then val l n else -1:=by
 induction l with
 |nil=>intro n _;simp[digs,allD,val]
 |cons c t ih=>
  intro n hn
  have ev:val (c::t) n=val t (n*10+((c.toNat:Int)-48)):=rfl
  rw[ev]
  simp only[digs,allD_cons,List.isEmpty_cons,Bool.false_or]
  cases hc:isD c
  ·simp
  ·have hc':=isD_iff.1 hc
   have h0:0≤n*10+((c.toNat:Int)-48):=by omega
   simp only[if_true,Bool.true_and]
   generalize hm':n*10+((c.toNat:Int)-48)=m at*
   cases ht:allD t
   ·simp only[Bool.false_and]
    split
    ·rfl
    ·rw[ih _ h0,ht];simp
   ·have hg:=val_ge ht h0
    by_cases hm:most<m
    ·rw[if_pos hm]
     split
     ·rename_i h
      simp only[Bool.true_and,decide_eq_true_eq] at h
      omega
     ·rfl
    ·rw[if_neg hm,ih _ h0,ht]
     cases t with
     |nil=>
      have e0:val [] m=m:=rfl
      rw[e0]
      simp only[List.isEmpty_nil,Bool.true_or,Bool.and_true,if_true,Bool.true_and]
      rw[if_pos (decide_eq_true (by omega))]
     |cons d t=>simp only[List.isEmpty_cons,Bool.false_or,Bool.true_and]
theorem digs_bd(most:Int)(l:List UInt8)(n:Int)(hn:0≤n)(hm:n≤most∨0≤most)(hl:n≤most): -1≤digs most l n∧(digs most l n≤most∨digs most l n= -1):=by
 rw[digs_eq most l n hn]
 split
 ·rename_i h
  simp only[Bool.and_eq_true,Bool.or_eq_true,decide_eq_true_eq] at h
  have:=val_ge h.1 hn
  rcases h.2 with h2|h2
  ·cases l with
   |nil=>simp only[val];omega
   |cons=>simp at h2
  ·omega
 ·omega
theorem of48{k:Nat}(h:k<10):(UInt8.ofNat (48+k)).toNat=48+k:=by
 simp[UInt8.toNat_ofNat'];omega
theorem dd_all(u:Nat):allD (decDigits u)=true∧val (decDigits u) 0=u∧(1≤u→(decDigits u).head?≠some 48)∧(decDigits u).isEmpty=false:=by
 induction u using Nat.strongRecOn with
 |_ u ih=>
  by_cases h:u<10
  ·rw[decDigits,dif_pos h]
   have h8:=of48 h
   refine⟨by simp[allD,isD,h8];omega,by simp only[val,h8];omega,fun hu he=> ?_,rfl⟩
   simp only[List.head?_cons,Option.some.injEq] at he
   have:=congrArg UInt8.toNat he
   rw[h8] at this
   have h48:(48:UInt8).toNat=48:=rfl
   omega
  ·obtain⟨a,b,c,d⟩:=ih (u/10) (by omega)
   have h8:=of48 (show u%10<10 by omega)
   rw[decDigits,dif_neg h]
   refine⟨by rw[allD_append,a];simp[allD,isD,h8];omega,by rw[val_append,b];simp only[val,h8];omega,fun _=> ?_,by simp⟩
   have:=c (by omega)
   cases e:decDigits (u/10) with
   |nil=>rw[e] at d;cases d
   |cons x t=>rw[e] at this;simpa using this
theorem dd_cano(u:Nat):cano (decDigits u)=true:=by
 obtain⟨a,b,c,d⟩:=dd_all u
 unfold cano
 rw[a,d]
 by_cases h:u<10
 ·rw[decDigits_one h];rfl
 ·have:=c (by omega)
  simp[bne,this]
theorem val_pos{l:List UInt8}(h:allD l=true)(he:l.isEmpty=false)(hh:l.head?≠some 48):1≤val l 0:=by
 cases l with
 |nil=>cases he
 |cons c t=>
  rw[allD_cons,Bool.and_eq_true] at h
  have hc:=isD_iff.1 h.1
  have h48:c.toNat≠48:=fun e=>hh (by simp;exact UInt8.toNat_inj.1 (by rw[e];rfl))
  have:=val_ge h.2 (n:=0*10+((c.toNat:Int)-48)) (by omega)
  simp only[val];omega
theorem dd_of:∀(k:Nat)(l:List UInt8),l.length=k→cano l=true→decDigits (val l 0).toNat=l:=by
 intro k
 induction k with
 |zero=>intro l hl hc;cases l with
  |nil=>simp[cano] at hc
  |cons=>simp at hl
 |succ k ih=>
  intro l hl hc
  obtain⟨t,c,rfl⟩:∃t c,l=t++[c]:=by
   have hne:l≠[]:=by intro e;rw[e] at hl;simp at hl
   exact⟨l.dropLast,l.getLast hne,(List.dropLast_concat_getLast hne).symm⟩
  simp only[cano,Bool.and_eq_true,allD_append,Bool.or_eq_true] at hc
  obtain⟨⟨_,ht,hd⟩,hh⟩:=hc
  have hd:=isD_iff.1 (by simpa [allD] using hd)
  rw[val_append]
  simp only[val]
  cases hte:t.isEmpty
  ·have hh':t.head?≠some 48:=by
    rcases hh with h1|h1
    ·cases t with
     |nil=>cases hte
     |cons x t=>simp at h1
    ·cases t with
     |nil=>cases hte
     |cons x t=>simpa using h1
   have h1:=val_pos ht hte hh'
   have hl':t.length=k:=by simpa using hl
   have:=ih t hl' (by simp only[cano,hte,ht,Bool.not_false,Bool.true_and,Bool.or_eq_true];right;simpa using hh')
   rw[decDigits,dif_neg (by omega)]
   have e1:(val t 0*10+((c.toNat:Int)-48)).toNat/10=(val t 0).toNat:=by omega
   have e2:(val t 0*10+((c.toNat:Int)-48)).toNat%10=c.toNat-48:=by omega
   rw[e1,e2,this]
   congr 1
   rw[show 48+(c.toNat-48)=c.toNat by omega]
   simp
  ·have:t=[]:=by simpa using hte
   subst this
   simp only[val]
   rw[decDigits_one (by omega)]
   rw[show 48+((0:Int)*10+((c.toNat:Int)-48)).toNat=c.toNat by omega]
   simp
theorem dd_of'{l:List UInt8}(h:cano l=true):decDigits (val l 0).toNat=l:=dd_of _ l rfl h
theorem cnt_dd(u:Nat)(most:Int):cnt (decDigits u) most=if (u:Int)≤min most 1000000000000 then (u:Int) else -1:=by
 unfold cnt
 rw[dd_cano,(dd_all u).2.1]
 simp
theorem cano_nonneg{l:List UInt8}(h:cano l=true):0≤val l 0:=by
 simp only[cano,Bool.and_eq_true] at h
 exact val_ge h.1.2 (by omega)
theorem cnt_bd(l:List UInt8)(most:Int): -1≤cnt l most∧cnt l most≤1000000000000∧(cnt l most≤most∨cnt l most= -1):=by
 unfold cnt
 split
 ·rename_i h
  simp only[Bool.and_eq_true,decide_eq_true_eq] at h
  have:=cano_nonneg h.1
  omega
 ·omega
theorem dd_of_cnt{l:List UInt8}{most:Int}(h:0≤cnt l most):itoa (cnt l most)=l:=by
 unfold cnt at h⊢
 split at h
 ·rename_i hc
  rw[if_pos hc]
  simp only[Bool.and_eq_true,decide_eq_true_eq] at hc
  unfold itoa
  rw[if_neg (by omega)]
  exact dd_of' hc.1
 ·omega
theorem cnt_prog(l:List UInt8)(most:Int)(h:l.isEmpty=false)(h':l.length≤1∨l.head?≠some 48):digs (min most 1000000000000) l 0=cnt l most:=by
 rw[digs_eq _ _ _ (by omega)]
 unfold cnt cano
 rw[h]
 have e:(l.length==1||l.head? !=some 48)=true:=by
  simp only[Bool.or_eq_true,beq_iff_eq,bne_iff_ne]
  rcases h' with h'|h'
  ·left
   cases l with
   |nil=>cases h
   |cons x t=>simp at h'⊢;exact h'
  ·right;exact h'
 rw[e]
 simp
theorem cnt_no{l:List UInt8}{most:Int}(h:l.isEmpty=true∨(1<l.length∧l.head?=some 48)):cnt l most= -1:=by
 unfold cnt cano
 rcases h with h|⟨h,h'⟩
 ·rw[h];simp
 ·have:(l.length==1||l.head? !=some 48)=false:=by simp[h'];omega
  rw[this];simp
theorem cnt_long{l:List UInt8}{most:Int}(h:13<l.length):cnt l most= -1:=by
 unfold cnt
 split
 ·rename_i hc
  simp only[Bool.and_eq_true,decide_eq_true_eq,cano] at hc
  obtain⟨⟨⟨_,hd⟩,hh⟩,hv⟩:=hc
  exfalso
  cases l with
  |nil=>simp at h
  |cons c t=>
   have hh':c≠48:=by
    rcases Bool.or_eq_true _ _▸hh with h1|h1
    ·simp at h1;subst h1;simp at h
    ·simpa using h1
   rw[allD_cons,Bool.and_eq_true] at hd
   have hcd:=isD_iff.1 hd.1
   have h48:c.toNat≠48:=fun e=>hh' (UInt8.toNat_inj.1 (by rw[e];rfl))
   have hp:=val_ge_pow hd.2 (n:=0*10+((c.toNat:Int)-48)) (by omega)
   have h13:(10:Int)^13≤10^t.length:=by
    have:10^13≤10^t.length:=Nat.pow_le_pow_right (by omega) (by simp at h;omega)
    exact_mod_cast this
   have hp2:(10000000000000:Int)≤val (c::t) 0:=Int.le_trans h13 hp
   omega
 ·rfl
theorem cnt_not{l:List UInt8}{most:Int}(h:allD l=false):cnt l most= -1:=by
 unfold cnt cano;rw[h];simp
def rt(a:Int):Bool:=decide (-1000000000000≤a∧a≤1000000000000)
theorem rt_yes{a:Int}(h: -1000000000000≤a)(h':a≤1000000000000):rt a=true:=by simp[rt,h,h']
theorem rt_no{a:Int}(h:a< -1000000000000∨1000000000000<a):rt a=false:=by simp[rt];omega
theorem rt_iff{a:Int}:rt a=true↔ -1000000000000≤a∧a≤1000000000000:=by simp[rt]
def pos(m:Nat):List UInt8:=decDigits (m/100)++([46]++(decDigits (m/10%10)++decDigits (m%10)))
def txt(a:Int):List UInt8:=if rt a then (if a<0 then 45::pos a.natAbs else pos a.natAbs) else []
def negL(l:List UInt8):Bool:=l.head?==some 45
def body(l:List UInt8):List UInt8:=if negL l then l.tail else l
def fin(neg:Bool)(m:Int):Option Int:=if 1000000000000<m∨(neg=true∧m=0) then none else some (if neg then -m else m)
def last3(t:List UInt8):Option (List UInt8×UInt8×UInt8):=match t.reverse with
 |d::c::e::r=>if e==46 then some (r.reverse,c,d) else none
 |_=>none
def two(c d:UInt8):Int:=((c.toNat:Int)-48)*10+((d.toNat:Int)-48)
def prs(l:List UInt8):Option Int:=match last3 (body l) with
 |some (x,c,d)=>if decide (0≤cnt x 10000000000)&&(isD c&&isD d) then fin (negL l) (cnt x 10000000000*100+two c d) else none
 |none=>none
def prs1(l:List UInt8):Int:=(prs l).getD 0
def prs2(l:List UInt8):Int:=if (prs l).isSome then 0 else 20
def pair(l:List UInt8):Int:=if l.length=2 then digs 99 l 0 else -1
theorem last3_mk(x:List UInt8)(c d:UInt8):last3 (x++[46,c,d])=some (x,c,d):=by
 unfold last3
 simp
theorem last3_of{t x:List UInt8}{c d:UInt8}(h:last3 t=some (x,c,d)):t=x++[46,c,d]:=by
 unfold last3 at h
 split at h
 ·rename_i d' c' e' r heq
  split at h
  ·rename_i he
   simp only[Option.some.injEq,Prod.mk.injEq] at h
   obtain⟨rfl,rfl,rfl⟩:=h
   have:=congrArg List.reverse heq
   rw[List.reverse_reverse] at this
   rw[this]
   have:e'=46:=by simpa using he
   simp[this]
  ·cases h
 ·cases h
theorem cnt_allD{x:List UInt8}{m:Int}(h:0≤cnt x m):allD x=true:=by
 cases e:allD x
 ·rw[cnt_not e] at h;omega
 ·rfl
theorem prs_mk{l x:List UInt8}{c d:UInt8}(h:body l=x++[46,c,d]):prs l=if decide (0≤cnt x 10000000000)&&(isD c&&isD d) then fin (negL l) (cnt x 10000000000*100+two c d) else none:=by
 unfold prs
 rw[h,last3_mk]
theorem prs_no{l:List UInt8}(h:last3 (body l)=none):prs l=none:=by
 unfold prs
 rw[h]
theorem two_bd{c d:UInt8}(hc:isD c=true)(hd:isD d=true):0≤two c d∧two c d≤99:=by
 have:=isD_iff.1 hc;have:=isD_iff.1 hd;unfold two;omega
theorem not_mem_of_allD{l:List UInt8}(h:allD l=true):(46:UInt8)∉l:=fun hm=>by
 unfold allD at h
 have:=List.all_eq_true.1 h 46 hm
 simp[isD] at this
theorem pair_two(c d:UInt8):pair [c,d]=if isD c&&isD d then two c d else -1:=by
 unfold pair
 rw[if_pos (show[c,d].length=2 from rfl),digs_eq _ _ _ (by omega)]
 simp only[allD,List.all_cons,List.all_nil,Bool.and_true,List.isEmpty_cons,Bool.false_or,val]
 cases hc:isD c
 ·simp
 ·cases hd:isD d
  ·simp
  ·have:=two_bd hc hd
   unfold two at this⊢
   rw[if_pos (by simp;omega)]
   simp
theorem pair_no{l:List UInt8}(h:l.length≠2):pair l= -1:=by unfold pair;rw[if_neg h]
theorem pair_bd(l:List UInt8): -1≤pair l∧pair l≤99:=by
 unfold pair
 split
 ·have:=digs_bd 99 l 0 (by omega) (.inl (by omega)) (by omega);omega
 ·omega
theorem cut46(t:List UInt8):(∃x y,t=x++46::y∧46∉x∧(cut t [46]).1=x∧(cut t [46]).2.1=y)∨(46∉t∧(cut t [46]).2.1=[]):=by
 have key:∀t:List UInt8,(∃(x y:List UInt8),t=x++46::y∧46∉x∧indexByte t 46=x.length)∨(46∉t∧indexByte t 46= -1):=by
  intro t
  induction t with
  |nil=>right;exact⟨by simp,rfl⟩
  |cons b t ih=>
   by_cases hb:b=46
   ·left
    refine⟨[],t,by rw[hb];rfl,by simp, ?_⟩
    simp[indexByte,hb]
   ·rcases ih with ⟨x,y,rfl,hx,hi⟩|⟨hn,hi⟩
    ·left
     refine⟨b::x,y,rfl,by simp[hx,Ne.symm hb], ?_⟩
     unfold indexByte
     rw[if_neg (by simpa using hb),hi,if_neg (by simp)]
     simp
    ·right
     refine⟨by simp[hn,Ne.symm hb], ?_⟩
     unfold indexByte
     rw[if_neg (by simpa using hb),hi]
     rfl
 unfold cut
 rw[index_one]
 rcases key t with ⟨x,y,rfl,hx,hi⟩|⟨hn,hi⟩
 ·left
  refine⟨x,y,rfl,hx, ?_, ?_⟩
  ·rw[hi,if_pos (by omega)];simp
  ·rw[hi,if_pos (by omega)];simp
 ·right
  refine⟨hn, ?_⟩
  rw[hi,if_neg (by omega)]
theorem prog_no{l:List UInt8}(h:cnt (cut (body l) [46]).1 10000000000<0∨pair (cut (body l) [46]).2.1<0):prs l=none:=by
 cases e:last3 (body l) with
 |none=>exact prs_no e
 |some p=>
  obtain⟨x,c,d⟩:=p
  have ht:=last3_of e
  rw[prs_mk ht]
  split
  ·rename_i hh
   exfalso
   simp only[Bool.and_eq_true,decide_eq_true_eq] at hh
   have hx:(46:UInt8)∉x:=not_mem_of_allD (cnt_allD hh.1)
   rcases cut46 (body l) with ⟨x',y',ht',hx',e1,e2⟩|⟨hn,_⟩
   ·rw[e1,e2] at h
    rw[ht] at ht'
    have hx2:x=x'∧[c,d]=y':=by
     clear h hh ht e e1 e2
     revert x'
     induction x with
     |nil=>
      intro x' ht' hx'
      cases x' with
      |nil=>simpa using ht'
      |cons b x'=>simp at ht';exact absurd (by simp[ht'.1]) hx'
     |cons b x ih=>
      intro x' ht' hx'
      cases x' with
      |nil=>simp at ht';exact absurd (by simp[ht'.1]) hx
      |cons b' x'=>
       simp only[List.cons_append,List.cons.injEq] at ht'
       have:=ih (fun hm=>hx (by simp[hm])) x' ht'.2 (fun hm=>hx' (by simp[hm]))
       exact⟨by rw[ht'.1,this.1],this.2⟩
    obtain⟨rfl,rfl⟩:=hx2
    rw[pair_two,hh.2.1,hh.2.2] at h
    have:=two_bd hh.2.1 hh.2.2
    simp at h
    omega
   ·exact hn (by rw[ht];simp)
  ·rfl
theorem prog_yes{l:List UInt8}(h1:0≤cnt (cut (body l) [46]).1 10000000000)(h2:0≤pair (cut (body l) [46]).2.1):
  prs l=fin (negL l) (cnt (cut (body l) [46]).1 10000000000*100+pair (cut (body l) [46]).2.1):=by
 rcases cut46 (body l) with ⟨x,y,ht,hx,e1,e2⟩|⟨hn,e2⟩
 ·rw[e1] at h1⊢
  rw[e2] at h2⊢
  have hl:y.length=2:=by
   by_cases hl:y.length=2
   ·exact hl
   ·rw[pair_no hl] at h2;omega
  match y,hl with
  |[c,d],_=>
   rw[pair_two] at h2⊢
   split at h2
   ·rename_i hcd
    rw[if_pos hcd,prs_mk ht,if_pos (by rw[hcd];simpa using h1)]
   ·omega
 ·rw[e2,pair_no (by simp)] at h2;omega
theorem ofD{c:UInt8}(h:isD c=true):decDigits (((c.toNat:Int)-48).toNat)=[c]:=by
 have:=isD_iff.1 h
 rw[decDigits_one (by omega),show 48+((c.toNat:Int)-48).toNat=c.toNat by omega]
 simp
theorem pos_of{x:List UInt8}{c d:UInt8}(hx:0≤cnt x 10000000000)(hc:isD c=true)(hd:isD d=true):pos (cnt x 10000000000*100+two c d).toNat=x++[46,c,d]:=by
 have hb:=cnt_bd x 10000000000
 have h1:=isD_iff.1 hc;have h2:=isD_iff.1 hd
 unfold pos two
 generalize hw:cnt x 10000000000=w at*
 have e1:(w*100+(((c.toNat:Int)-48)*10+((d.toNat:Int)-48))).toNat/100=w.toNat:=by omega
 have e2:(w*100+(((c.toNat:Int)-48)*10+((d.toNat:Int)-48))).toNat/10%10=((c.toNat:Int)-48).toNat:=by omega
 have e3:(w*100+(((c.toNat:Int)-48)*10+((d.toNat:Int)-48))).toNat%10=((d.toNat:Int)-48).toNat:=by omega
 rw[e1,e2,e3,ofD hc,ofD hd]
 have hi:itoa (cnt x 10000000000)=x:=dd_of_cnt (by rw[hw];exact hx)
 rw[hw] at hi
 unfold itoa at hi
 rw[if_neg (by omega)] at hi
 rw[hi]
 rfl
theorem of_body{l:List UInt8}(h:negL l=true):l=45::body l:=by
 unfold body;rw[h]
 unfold negL at h
 cases l with
 |nil=>simp at h
 |cons b t=>simp at h;simp[h]
theorem of_body'{l:List UInt8}(h:negL l=false):l=body l:=by unfold body;rw[h];rfl
theorem txt_of_prs{l:List UInt8}{a:Int}(h:prs l=some a):rt a=true∧txt a=l:=by
 cases e:last3 (body l) with
 |none=>rw[prs_no e] at h;cases h
 |some p=>
  obtain⟨x,c,d⟩:=p
  have ht:=last3_of e
  rw[prs_mk ht] at h
  split at h
  ·rename_i hh
   simp only[Bool.and_eq_true,decide_eq_true_eq] at hh
   have hb:=cnt_bd x 10000000000
   have h2:=two_bd hh.2.1 hh.2.2
   have hp:=pos_of hh.1 hh.2.1 hh.2.2
   generalize hm:cnt x 10000000000*100+two c d=m at*
   unfold fin at h
   split at h
   ·cases h
   ·rename_i hn
    simp only[Option.some.injEq] at h
    cases hg:negL l
    ·rw[hg] at h;simp at h
     subst h
     have hr:rt m=true:=rt_yes (by omega) (by omega)
     refine⟨hr, ?_⟩
     unfold txt
     rw[hr,if_pos rfl,if_neg (by omega),show m.natAbs=m.toNat by omega,hp,←ht,←of_body' hg]
    ·rw[hg] at h hn;simp at h hn
     subst h
     have hr:rt (-m)=true:=rt_yes (by omega) (by omega)
     refine⟨hr, ?_⟩
     unfold txt
     rw[hr,if_pos rfl,if_pos (by omega),show(-m).natAbs=m.toNat by omega,hp,←ht,←of_body hg]
  ·cases h
theorem dd_head(u:Nat):(decDigits u).head?≠some 45:=by
 obtain⟨a,_,_,d⟩:=dd_all u
 cases e:decDigits u with
 |nil=>simp
 |cons c t=>
  rw[e] at a
  rw[allD_cons,Bool.and_eq_true] at a
  have:=isD_iff.1 a.1
  simp
  intro h
  rw[h] at this
  simp at this
theorem pos_eq(m:Nat):pos m=decDigits (m/100)++[46,UInt8.ofNat (48+m/10%10),UInt8.ofNat (48+m%10)]:=by
 unfold pos
 rw[decDigits_one (show m/10%10<10 by omega),decDigits_one (show m%10<10 by omega)]
 rfl
theorem pos_head(m:Nat):(pos m).head?≠some 45:=by
 have h:=dd_head (m/100)
 have he:=(dd_all (m/100)).2.2.2
 rw[pos_eq]
 cases e:decDigits (m/100) with
 |nil=>rw[e] at he;cases he
 |cons c t=>rw[e] at h;simpa using h
theorem prs_pos(m:Nat)(l:List UInt8)(hl:body l=pos m)(hm:m≤1000000000000):prs l=fin (negL l) m:=by
 rw[pos_eq] at hl
 have h1:isD (UInt8.ofNat (48+m/10%10))=true:=isD_iff.2 (by rw[of48 (by omega)];omega)
 have h2:isD (UInt8.ofNat (48+m%10))=true:=isD_iff.2 (by rw[of48 (by omega)];omega)
 rw[prs_mk hl,cnt_dd,if_pos (show((m/100:Nat):Int)≤min 10000000000 1000000000000 by omega),if_pos (by simp only[h1,h2,Bool.and_true,decide_eq_true_eq];omega)]
 unfold two
 rw[of48 (show m/10%10<10 by omega),of48 (show m%10<10 by omega)]
 congr 1
 omega
theorem prs_txt{a:Int}(h:rt a=true):prs (txt a)=some a:=by
 have hb:=rt_iff.1 h
 unfold txt
 rw[h,if_pos rfl]
 by_cases ha:a<0
 ·rw[if_pos ha,prs_pos a.natAbs _ (by simp[body,negL]) (by omega)]
  unfold fin
  rw[show negL (45::pos a.natAbs)=true from rfl,if_neg (by omega)]
  simp;omega
 ·have hn:negL (pos a.natAbs)=false:=by unfold negL;simpa using pos_head a.natAbs
  rw[if_neg ha,prs_pos a.natAbs _ (by unfold body;rw[hn];rfl) (by omega)]
  unfold fin
  rw[hn,if_neg (by simp;omega)]
  simp;omega
theorem ref_no{l x:List UInt8}{c d:UInt8}(ht:body l=x++[46,c,d])(h:cnt x 10000000000<0∨isD c=false∨isD d=false):prs l=none:=by
 rw[prs_mk ht]
 rw[if_neg]
 simp only[Bool.and_eq_true,decide_eq_true_eq]
 rintro⟨a,b,c⟩
 rcases h with h|h|h
 ·omega
 ·rw[h] at b;cases b
 ·rw[h] at c;cases c
theorem ref_short{l:List UInt8}(h:(body l).length<4):prs l=none:=by
 cases e:last3 (body l) with
 |none=>exact prs_no e
 |some p=>
  obtain⟨x,c,d⟩:=p
  have ht:=last3_of e
  rw[ht] at h
  have hx:x=[]:=by
   cases x with
   |nil=>rfl
   |cons=>simp at h;omega
  exact ref_no ht (.inl (by rw[hx];simp[cnt,cano]))
end Go.Proofs.YtjhjdiaomnpkmaaGreatDoor

namespace Go.Proofs.YtjhjdiaomnpkmaaGreatDoor
open Go.RowKit Go.Lib
def B(l:List UInt8):ByteArray:=⟨l.toArray⟩
theorem B_list(l:List UInt8):(B l).data.toList=l:=by simp[B]
theorem B_toList(l:List UInt8):(B l).toList=l:=ByteArray.toList_mk l
theorem B_of(s:ByteArray):B s.data.toList=s:=by simp[B]
theorem B_append(a b:List UInt8):B a++B b=B (a++b):=ByteArray.mk_append_mk a b
theorem B_size(l:List UInt8):(B l).size=l.length:=by simp[B,ByteArray.size]
def pk(c n:Int):Int:=if c<0 then -((c+1).tmod n) else c%n
def Two(e:Ending)(x y:Int):Prop:=e= .returned (.tuple #[.int .i64 x,.int .i64 y])
def Tab(w:World):Prop:=Lib.TabIs Tryz.prog w "internal/strconv.uint64pow10" .u64 Lib.pow10Tab
theorem gTab:Tryz.prog.globalNamed "internal/strconv.uint64pow10"=some 1:=by kernel_rfl
def Rel(w0 w:World):Prop:=Tab w0∧Below w0.heap.size w0 w
theorem Rel.tab{w0 w:World}(h:Rel w0 w):Tab w:=Joins.tab_stays gTab h.1 h.2 (Nat.le_refl _)
theorem Rel.self{w0 w:World}(h:Rel w0 w):Rel w w:=⟨h.tab,Below.refl _ _⟩
theorem Rel.trans{w0 w w':World}(h:Rel w0 w)(h':Rel w w'):Rel w0 w':=⟨h.1,h.2.trans (h'.2.mono h.2.size)⟩
theorem Rel.size{w0 w:World}(h:Rel w0 w):w0.heap.size≤w.heap.size:=h.2.size
theorem Rel.start{w:World}(h:Tab w):Rel w w:=⟨h,Below.refl _ _⟩
theorem Rel.step{w0 w w':World}(h:Rel w0 w)(hb:Below w.heap.size w w'):Rel w0 w':=⟨h.1,h.2.trans (hb.mono h.2.size)⟩
theorem Rel.alloc{w0 w:World}(h:Rel w0 w)(o:Obj):Rel w0 (w.alloc o):=⟨h.1,h.2.alloc h.2.size o⟩
theorem Rel.drew{w0 w:World}(h:Rel w0 w):Rel w0 w.drew:=⟨h.1,h.2.drew⟩
theorem Rel.drewN{w0 w:World}(h:Rel w0 w)(n:Nat):Rel w0 (w.drewN n):=⟨h.1,⟨h.2.os,h.2.tape,h.2.output,h.2.size,h.2.block⟩⟩
theorem Rel.setCell{w0 w:World}(h:Rel w0 w){p:Addr}(hp:w0.heap.size≤p.block)(u:Value):Rel w0 (w.setCell p u):=⟨h.1,h.2.setCell hp u⟩
theorem Rel.grow{w0 w:World}(h:Rel w0 w)(os:Array Obj):Rel w0 (Sort.grow w os):=by
 refine h.step ⟨rfl,rfl,rfl, ?_,fun k hk=> ?_⟩
 ·show w.heap.size≤(w.heap++os).size
  rw[Array.size_append];omega
 ·show(w.heap++os)[k]?=w.heap[k]?
  rw[Array.getElem?_append_left hk]
theorem ret_int{k:IntKind}{a b:Int}(h:a=b):Ending.returned (.int k a)= .returned (.int k b):=by rw[h]
theorem ret_bool{a b:Bool}(h:a=b):Ending.returned (.bool a)= .returned (.bool b):=by rw[h]
theorem ret_str{a b:ByteArray}(h:a=b):Ending.returned (.string a)= .returned (.string b):=by rw[h]
theorem ret_two{a b c d:Int}(h:a=c)(h':b=d):Two (Ending.returned (.tuple #[.int .i64 a,.int .i64 b])) c d:=by subst h;subst h';rfl
theorem int_at{f:FuncId}{args:Array Value}{w:World}{R:World→Prop}{x:Int}(y:Int)(c:Calls Tryz.prog f args w fun e w'=>e= .returned (.int .i64 x)∧R w')(h:Hid (x=y)):Calls Tryz.prog f args w fun e w'=>e= .returned (.int .i64 y)∧R w':=by
 have e:=h.out;subst e;exact c
theorem two_at{f:FuncId}{args:Array Value}{w:World}{R:World→Prop}{x y:Int}(x' y':Int)(c:Calls Tryz.prog f args w fun e w'=>Two e x y∧R w')(h:Hid (x=x'))(h':Hid (y=y')):Calls Tryz.prog f args w fun e w'=>e= .returned (.tuple #[.int .i64 x',.int .i64 y'])∧R w':=by
 have e:=h.out;have e':=h'.out;subst e;subst e';exact c
theorem tdt(p n:Int)(hn:0<n):n*p.tdiv n+p.tmod n=p∧(0≤p→0≤p.tmod n)∧(p≤0→p.tmod n≤0)∧p.tmod n<n∧ -n<p.tmod n:=by
 refine⟨Int.mul_tdiv_add_tmod p n,fun h=>Int.tmod_nonneg n h,fun h=> ?_,Int.tmod_lt_of_pos p hn, ?_⟩
 ·have:=Int.tmod_nonneg n (a:= -p) (by omega)
  rw[Int.neg_tmod] at this;omega
 ·have:=Int.tmod_lt_of_pos (-p) hn
  rw[Int.neg_tmod] at this;omega
theorem pk_bd(c n:Int)(hn:0<n):0≤pk c n∧pk c n<n:=by
 unfold pk
 split
 ·have:=tdt (c+1) n hn;omega
 ·exact⟨Int.emod_nonneg c (by omega),Int.emod_lt_of_pos c hn⟩
theorem pick_any(c n:Int)(hc: -9223372036854775808≤c)(hc':c≤9223372036854775807)(hn:0<n)(hn':n≤9223372036854775807)(w:World):
  Calls Tryz.prog 60 #[.int .i64 c,.int .i64 n] w fun e w'=>e= .returned (.int .i64 (pk c n))∧w=w':=by
 by_cases h:c<0
 all_goals
  go_enter Tryz.func60,Tryz.ntmps60
  go_wp2
  all_goals
   go_ret
   exact⟨ret_int (by unfold pk;split<;>first|rfl|omega),rfl⟩
theorem bool_at{f:FuncId}{args:Array Value}{w:World}{R:World→Prop}{x:Bool}(y:Bool)(c:Calls Tryz.prog f args w fun e w'=>e= .returned (.bool x)∧R w')(h:Hid (x=y)):Calls Tryz.prog f args w fun e w'=>e= .returned (.bool y)∧R w':=by
 have e:=h.out;subst e;exact c
def dgt(d:Int):UInt8:=UInt8.ofNat (48+d.toNat)
theorem dd_step{n:Int}(h:0≤n)(h':10≤n):decDigits n.toNat=decDigits (n/10).toNat++[dgt (n%10)]:=by
 unfold dgt
 rw[decDigits,dif_neg (by omega)]
 congr 2
 ·omega
 ·congr 2;omega
theorem dd_last{n:Int}(h:0≤n)(h': ¬10≤n):decDigits n.toNat=[dgt (n%10)]:=by
 unfold dgt
 rw[decDigits,dif_pos (by omega)]
 congr 2;omega
theorem nd_le(k u:Nat)(h:u<10^k)(hk:1≤k):(decDigits u).length≤k:=by
 induction k generalizing u with
 |zero=>omega
 |succ k ih=>
  rw[decDigits]
  split
  ·simp
  ·rename_i h10
   have hk':1≤k:=by
    rcases k with _|k
    ·simp at h;omega
    ·omega
   have:=ih (u/10) (by rw[Nat.pow_succ] at h;omega) hk'
   simp
   omega
theorem dd_size(n:Int)(h:n≤9223372036854775807):(B (decDigits n.toNat)).size≤19:=by
 rw[B_size]
 exact nd_le 19 n.toNat (by have e:10^19=10000000000000000000:=by decide
                            omega) (by omega)
theorem byte_string(w:World)(d:Int)(h0:0≤d)(h1:d≤9):(convert 93 9 (.slice (some ⟨w.heap.size,0,none⟩) 1 1)).run Tryz.prog (w.alloc (.cells #[.int .u8 (48+d)] 5))=
  .ok (.string (B [dgt d])) (w.alloc (.cells #[.int .u8 (48+d)] 5)):=by
 have e:(48+d:Int)=((UInt8.ofNat (48+d.toNat)).toNat:Int):=by rw[of48 (by omega)];omega
 rw[e]
 exact run_convert_bytes_back (P:=Tryz.prog) _ 93 9 5 ⟨w.heap.size,0,none⟩ 1 [UInt8.ofNat (48+d.toNat)] Tryz.underlying93 Tryz.underlying5 Tryz.underlying9 (fun j hj=>by
  obtain rfl:j=0:=by simpa using hj
  simp[Addr.add,go_sem])
theorem ldec_any(w0:World):∀(k:Nat)(n:Int),0≤n→n.toNat≤k→n≤9223372036854775807→∀w,Rel w0 w→
  Calls Tryz.prog 61 #[.int .i64 n] w fun e w'=>e= .returned (.string (B (decDigits n.toNat)))∧Rel w0 w':=by
 intro k
 induction k with
 |zero=>
  intro n h0 hk h1 w hr
  obtain rfl:n=0:=by omega
  have hconv:∀w:World,(convert 93 9 (.slice (some ⟨w.heap.size,0,none⟩) 1 1)).run Tryz.prog (w.alloc (.cells #[.int .u8 48] 5))= .ok (.string (B [dgt 0])) (w.alloc (.cells #[.int .u8 48] 5)):=fun w=>byte_string w 0 (by omega) (by omega)
  go_enter Tryz.func61,Tryz.ntmps61
  go_wp2_with (fail)
  go_ret
  exact⟨ret_str (by rw[dd_last (by omega) (by omega)];rfl),hr.alloc _⟩
 |succ k ih=>
  intro n h0 hk h1 w hr
  have b1:0≤n%10:=by omega
  have b2:n%10≤9:=by omega
  have hconv:=fun w:World=>byte_string w (n%10) b1 b2
  by_cases h:10≤n
  ·have HS:=yH (dd_step h0 h)
   have z1:=dd_size (n/10) (by omega)
   have z2:(B [dgt (n%10)]).size≤1:=Nat.le_refl _
   have z3: ¬9223372036854775807<(B (decDigits (n/10).toNat)).size+(B [dgt (n%10)]).size:=by omega
   go_enter Tryz.func61,Tryz.ntmps61
   go_wp2_with ((go_at_call 61;(with_reducible refine(ih (n/10) (by omega) (by omega) (by omega) _ (hr.alloc _)).mono ?_);rintro e w' ⟨rfl,hr'⟩))
   go_ret
   exact⟨ret_str (by rw[HS.out,B_append]),hr'⟩
  ·have HS:=yH (dd_last h0 h)
   go_enter Tryz.func61,Tryz.ntmps61
   go_wp2_with (fail)
   go_ret
   exact⟨ret_str (by rw[HS.out]),hr.alloc _⟩
theorem decimal_any(n:Int)(h0:0≤n)(h1:n≤9223372036854775807)(w0 w:World)(hr:Rel w0 w):
  Calls Tryz.prog 61 #[.int .i64 n] w fun e w'=>e= .returned (.string (B (decDigits n.toNat)))∧Rel w0 w':=ldec_any w0 _ n h0 (Nat.le_refl _) h1 w hr
end Go.Proofs.YtjhjdiaomnpkmaaGreatDoor

namespace Go.Proofs.YtjhjdiaomnpkmaaGreatDoor
open Go.Lib
def isL(c:UInt8):Bool:=decide (97≤c.toNat∧c.toNat≤122)
def isPt(c:UInt8):Bool:=isL c||isD c||c==46
def isBl(c:UInt8):Bool:=c==32||c==10
def isSg(c:UInt8):Bool:=c==40||c==41||c==44
def theWords:List (List UInt8):=[[108,111,119,101,115,116],[115,101,99,111,110,100],[102,114,111,109],[108,101,115,115],[99,117,116],[109,105,110],[109,97,120],[101,108,115,101],[105,102],[109,111,114,101],[97,98,111,118,101]]
def isWord(l:List UInt8):Bool:=theWords.any (· ==l)
def isName(l:List UInt8):Bool:=decide (l≠[]∧l.length≤12)&&(l.head?.any isL)&& !isWord l&&l.all (fun c=>isL c||isD c)
abbrev Tok:=Int×List UInt8×Int×Int
def tokOf(x:List UInt8):Option (Int×Int):=
 if isWord x||isName x then some (1,0)
 else if 0≤cnt x 100000 then some (2,cnt x 100000)
 else match prs x with
  |some a=>some (3,a)
  |none=>none
abbrev Scan:=Except Nat (List Tok)
def pre(ts:List Tok):Scan→Scan
 | .ok l=> .ok (ts++l)
 | .error k=> .error k
theorem pre_nil(r:Scan):pre [] r=r:=by cases r<;>rfl
theorem pre_pre(a b:List Tok)(r:Scan):pre a (pre b r)=pre (a++b) r:=by cases r<;>simp[pre]
theorem run_len(l:List UInt8):(l.dropWhile isPt).length=l.length-(l.takeWhile isPt).length:=by
 have:=congrArg List.length (List.takeWhile_append_dropWhile (p:=isPt) (l:=l))
 simp only[List.length_append] at this
 omega
theorem tokOf_nil:tokOf []=none:=by decide
theorem tokOf_ne{x:List UInt8}{k n:Int}(h:tokOf x=some (k,n)):x≠[]:=by
 rintro rfl;rw[tokOf_nil] at h;cases h
def lx(p:Nat)(l:List UInt8):Scan:=
 match l with
 |[]=> .ok [(5,[],0,(p:Int))]
 |c::t=>
  if isBl c then lx (p+1) t
  else if isSg c then pre [(4,[c],0,(p:Int))] (lx (p+1) t)
  else
   match h:tokOf ((c::t).takeWhile isPt) with
   |none=> .error p
   |some kn=>pre [(kn.1,(c::t).takeWhile isPt,kn.2,(p:Int))] (lx (p+((c::t).takeWhile isPt).length) ((c::t).dropWhile isPt))
 termination_by l.length
 decreasing_by
  all_goals simp_wf
  have h1:=tokOf_ne (k:=kn.1) (n:=kn.2) h
  have h2:=run_len (c::t)
  have h3:1≤((c::t).takeWhile isPt).length:=by
   rcases hx:(c::t).takeWhile isPt with _|⟨a,b⟩
   ·exact absurd hx h1
   ·simp
  simp at h2 h3⊢
  omega
theorem lx_nil(p:Nat):lx p []= .ok [(5,[],0,(p:Int))]:=by rw[lx]
theorem lx_blank(p:Nat)(c:UInt8)(t:List UInt8)(h:isBl c=true):lx p (c::t)=lx (p+1) t:=by rw[lx,if_pos h]
theorem lx_sign(p:Nat)(c:UInt8)(t:List UInt8)(h:isBl c=false)(h':isSg c=true):lx p (c::t)=pre [(4,[c],0,(p:Int))] (lx (p+1) t):=by
 rw[lx,if_neg (by rw[h];simp),if_pos h']
theorem lx_bad(p:Nat)(c:UInt8)(t:List UInt8)(h:isBl c=false)(h':isSg c=false)(hn:tokOf ((c::t).takeWhile isPt)=none):lx p (c::t)= .error p:=by
 rw[lx,if_neg (by rw[h];simp),if_neg (by rw[h'];simp)]
 split
 ·rfl
 ·rename_i h2;rw[hn] at h2;cases h2
theorem lx_tok(p:Nat)(c:UInt8)(t:List UInt8)(k n:Int)(h:isBl c=false)(h':isSg c=false)(hn:tokOf ((c::t).takeWhile isPt)=some (k,n)):
  lx p (c::t)=pre [(k,(c::t).takeWhile isPt,n,(p:Int))] (lx (p+((c::t).takeWhile isPt).length) ((c::t).dropWhile isPt)):=by
 rw[lx,if_neg (by rw[h];simp),if_neg (by rw[h'];simp)]
 split
 ·rename_i h2;rw[hn] at h2;cases h2
 ·rename_i kn h2;rw[hn] at h2;cases h2;rfl
def Good(x:List UInt8)(k n:Int):Prop:=(∃c,x=[c]∧isSg c=true∧k=4∧n=0)∨(x≠[]∧x.all isPt=true∧tokOf x=some (k,n))
def stops(r:List UInt8):Bool:=r.head?.all fun c=> !isPt c
theorem pt_not{c:UInt8}(h:isPt c=true):isBl c=false∧isSg c=false:=by
 simp only[isPt,isL,isD,isBl,isSg,Bool.or_eq_true,decide_eq_true_eq,beq_iff_eq,Bool.or_eq_false_iff,beq_eq_false_iff_ne] at h⊢
 refine⟨⟨?_, ?_⟩,⟨?_, ?_⟩, ?_⟩
 all_goals rintro rfl;revert h;decide
theorem sg_not{c:UInt8}(h:isSg c=true):isBl c=false∧isPt c=false:=by
 constructor
 ·simp only[isBl,isSg,Bool.or_eq_true,beq_iff_eq,Bool.or_eq_false_iff,beq_eq_false_iff_ne] at h⊢
  rcases h with (rfl|rfl)|rfl<;>decide
 ·cases hp:isPt c
  ·rfl
  ·rw[(pt_not hp).2] at h;cases h
theorem take_run{x r:List UInt8}(hx:x.all isPt=true)(hr:stops r=true):(x++r).takeWhile isPt=x∧(x++r).dropWhile isPt=r:=by
 induction x with
 |nil=>
  cases r with
  |nil=>exact⟨rfl,rfl⟩
  |cons c t=>
   have hc:isPt c=false:=by simpa [stops] using hr
   simp[List.takeWhile_cons,List.dropWhile_cons,hc]
 |cons c t ih=>
  simp only[List.all_cons,Bool.and_eq_true] at hx
  have:=ih hx.2
  simp[List.takeWhile_cons,List.dropWhile_cons,hx.1,this.1,this.2]
theorem lx_good{x:List UInt8}{k n:Int}(h:Good x k n)(p:Nat)(r:List UInt8)(hr:stops r=true):lx p (x++r)=pre [(k,x,n,(p:Int))] (lx (p+x.length) r):=by
 rcases h with ⟨c,rfl,hs,rfl,rfl⟩|⟨h0,ha,ht⟩
 ·exact lx_sign p c r (sg_not hs).1 hs
 ·cases x with
  |nil=>exact absurd rfl h0
  |cons c t=>
   have hc:isPt c=true:=by simp only[List.all_cons,Bool.and_eq_true] at ha;exact ha.1
   obtain⟨e1,e2⟩:=take_run ha hr
   have e1':(c::(t++r)).takeWhile isPt=c::t:=e1
   have e2':(c::(t++r)).dropWhile isPt=r:=e2
   show lx p (c::(t++r))=_
   rw[lx_tok p c (t++r) k n (pt_not hc).1 (pt_not hc).2 (by rw[e1'];exact ht),e1',e2']
def Ord:Int→List Tok→Prop
 |_,[]=>True
 |q,t::ts=>q≤t.2.2.2∧Ord (t.2.2.2+(t.2.1.length:Int)) ts
theorem Ord.mono{q q':Int}{ts:List Tok}(h:Ord q ts)(hq:q'≤q):Ord q' ts:=by
 cases ts with
 |nil=>trivial
 |cons t ts=>exact⟨by have:=h.1;omega,h.2⟩
theorem pre_ok{ts l:List Tok}{r:Scan}(h:pre ts r= .ok l):∃m,r= .ok m∧l=ts++m:=by
 cases r with
 |ok m=>exact⟨m,rfl,by injection h with h;exact h.symm⟩
 |error k=>cases h
theorem all_run(l:List UInt8):(l.takeWhile isPt).all isPt=true:=by
 induction l with
 |nil=>rfl
 |cons c t ih=>
  rw[List.takeWhile_cons]
  split
  ·rename_i h;simp only[List.all_cons,h,Bool.true_and];exact ih
  ·rfl
theorem lx_out:∀(m:Nat)(s:List UInt8),s.length≤m→∀(p:Nat)(l:List Tok),lx p s= .ok l→
  ∃ts,l=ts++[(5,[],0,((p+s.length:Nat):Int))]∧(∀t∈ts,Good t.2.1 t.1 t.2.2.1∧t.2.1.length≤s.length∧(p:Int)≤t.2.2.2∧t.2.2.2+(t.2.1.length:Int)≤((p+s.length:Nat):Int))∧Ord p ts∧ts.length≤s.length:=by
 intro m
 induction m with
 |zero=>
  intro s hs p l h
  obtain rfl:s=[]:=List.length_eq_zero_iff.1 (by omega)
  rw[lx_nil] at h
  injection h with h
  exact⟨[],by rw[←h];rfl,(fun t ht=>by cases ht),trivial,Nat.zero_le _⟩
 |succ m ih=>
  intro s hs p l h
  cases s with
  |nil=>
   rw[lx_nil] at h
   injection h with h
   exact⟨[],by rw[←h];rfl,(fun t ht=>by cases ht),trivial,Nat.zero_le _⟩
  |cons c t=>
   simp only[List.length_cons] at hs⊢
   cases hb:isBl c
   ·cases hg:isSg c
    ·cases hn:tokOf ((c::t).takeWhile isPt) with
     |none=>rw[lx_bad p c t hb hg hn] at h;cases h
     |some kn=>
      obtain⟨k,n⟩:=kn
      rw[lx_tok p c t k n hb hg hn] at h
      obtain⟨l',h',rfl⟩:=pre_ok h
      have hx:=tokOf_ne hn
      have h2:=run_len (c::t)
      have h3:1≤((c::t).takeWhile isPt).length:=by
       rcases hx':(c::t).takeWhile isPt with _|⟨a,b⟩
       ·exact absurd hx' hx
       ·simp
      have h4:((c::t).takeWhile isPt).length≤(c::t).length:=(List.takeWhile_sublist _).length_le
      have ha:=all_run (c::t)
      generalize (c::t).takeWhile isPt=x at*
      generalize (c::t).dropWhile isPt=r at*
      simp only[List.length_cons] at h2 h4
      obtain⟨ts,e,hts,ho,hle⟩:=ih r (by omega) (p+x.length) l' h'
      refine⟨(k,x,n,(p:Int))::ts, ?_, ?_, ?_,by simp;omega⟩
      ·rw[e,show p+x.length+r.length=p+(t.length+1) by omega];rfl
      ·intro u hu
       rcases List.mem_cons.1 hu with rfl|hu
       ·exact⟨.inr ⟨hx,ha,hn⟩,h4,Int.le_refl _,by simp only[];omega⟩
       ·have:=hts u hu
        exact⟨this.1,by omega,by omega,by omega⟩
      ·exact⟨Int.le_refl _,ho.mono (by simp only[];omega)⟩
    ·rw[lx_sign p c t hb hg] at h
     obtain⟨l',h',rfl⟩:=pre_ok h
     obtain⟨ts,e,hts,ho,hle⟩:=ih t (by omega) (p+1) l' h'
     refine⟨(4,[c],0,(p:Int))::ts, ?_, ?_, ?_,by simp;omega⟩
     ·rw[e,show p+1+t.length=p+(t.length+1) by omega];rfl
     ·intro u hu
      rcases List.mem_cons.1 hu with rfl|hu
      ·exact⟨.inl ⟨c,rfl,hg,rfl,rfl⟩,by simp,Int.le_refl _,by simp;omega⟩
      ·have:=hts u hu
       exact⟨this.1,by omega,by omega,by omega⟩
     ·exact⟨Int.le_refl _,ho.mono (by simp)⟩
   ·rw[lx_blank p c t hb] at h
    obtain⟨ts,e,hts,ho,hle⟩:=ih t (by omega) (p+1) l h
    exact⟨ts,by rw[e,show p+1+t.length=p+(t.length+1) by omega],fun u hu=>⟨(hts u hu).1,by have:=(hts u hu).2;omega,by have:=(hts u hu).2;omega,by have:=(hts u hu).2;omega⟩,ho.mono (by omega),by omega⟩
def theNames:List (List UInt8):=[[97],[98,111,98],[108,111,119,101,115],[97,99,109,101,57],[120,49],[101,108,115,101,101]]
def sellerL(k:Int):List UInt8:=(theNames.getD (k%6).toNat [])++decDigits (k/6).toNat
theorem name_head{x:List UInt8}{c:UInt8}{t:List UInt8}(hx:x=c::t)(hc:isL c=false):isName x=false:=by
 subst hx;simp[isName,hc]
theorem word_head{x:List UInt8}{c:UInt8}{t:List UInt8}(hx:x=c::t)(hc:isL c=false):isWord x=false:=by
 subst hx
 cases h:isWord (c::t)
 ·rfl
 ·unfold isWord theWords at h
  simp only[List.any_cons,List.any_nil,Bool.or_false,Bool.or_eq_true,beq_iff_eq,List.cons.injEq] at h
  exfalso
  rcases h with ⟨e,_⟩|⟨e,_⟩|⟨e,_⟩|⟨e,_⟩|⟨e,_⟩|⟨e,_⟩|⟨e,_⟩|⟨e,_⟩|⟨e,_⟩|⟨e,_⟩|⟨e,_⟩<;>(subst e;revert hc;decide)
theorem isL_D{c:UInt8}(h:isD c=true):isL c=false:=by
 rw[isD_iff] at h
 simp[isL];omega
theorem isPt_D{c:UInt8}(h:isD c=true):isPt c=true:=by simp[isPt,h]
theorem all_pt{l:List UInt8}(h:allD l=true):l.all isPt=true:=by
 rw[List.all_eq_true]
 intro c hc
 exact isPt_D (List.all_eq_true.1 h c hc)
theorem dd_cons(u:Nat):∃c t,decDigits u=c::t∧isD c=true:=by
 obtain⟨h1,_,_,h4⟩:=dd_all u
 cases h:decDigits u with
 |nil=>rw[h] at h4;cases h4
 |cons c t=>
  rw[h,allD_cons,Bool.and_eq_true] at h1
  exact⟨c,t,rfl,h1.1⟩
theorem good_count(u:Nat)(h:u≤100000):Good (decDigits u) 2 u:=by
 obtain⟨c,t,e,hc⟩:=dd_cons u
 have h1:=name_head e (isL_D hc)
 have h2:=word_head e (isL_D hc)
 have h3:cnt (decDigits u) 100000=(u:Int):=by rw[cnt_dd,if_pos (by omega)]
 refine .inr ⟨by rw[e];simp,all_pt (dd_all u).1, ?_⟩
 unfold tokOf
 rw[h1,h2,h3,if_neg (by simp),if_pos (by omega)]
theorem prs_posn(m:Nat)(h:m≤1000000000000):prs (pos m)=some (m:Int):=by
 have:=prs_txt (a:=(m:Int)) (rt_yes (by omega) (by omega))
 rw[show txt (m:Int)=pos m by unfold txt;rw[rt_yes (by omega) (by omega),if_pos rfl,if_neg (by omega)];rfl] at this
 exact this
theorem good_money(m:Nat)(h:m≤1000000000000):Good (pos m) 3 m:=by
 obtain⟨c,t,e,hc⟩:=dd_cons (m/100)
 have e':pos m=c::(t++([46]++(decDigits (m/10%10)++decDigits (m%10)))):=by unfold pos;rw[e];rfl
 have h1:=name_head e' (isL_D hc)
 have h2:=word_head e' (isL_D hc)
 have h3:cnt (pos m) 100000= -1:=cnt_not (by
  rw[pos,allD_append,allD_append];simp[allD,isD])
 refine .inr ⟨by rw[e'];simp, ?_, ?_⟩
 ·unfold pos
  rw[List.all_append,List.all_append,List.all_append,all_pt (dd_all _).1,all_pt (dd_all _).1,all_pt (dd_all _).1];rfl
 ·unfold tokOf
  rw[h1,h2,h3,if_neg (by simp),if_neg (by omega),prs_posn m h]
def goodB(x:List UInt8):Bool:= !x.isEmpty&&x.all isPt&&(isWord x||isName x)
theorem good_word{x:List UInt8}(h:goodB x=true):Good x 1 0:=by
 simp only[goodB,Bool.and_eq_true] at h
 refine .inr ⟨by rintro rfl;simp at h,h.1.2, ?_⟩
 unfold tokOf;rw[if_pos h.2]
theorem dd_one(n:Nat)(h:n<10):decDigits n=[UInt8.ofNat (48+n)]:=by rw[decDigits,dif_pos h]
theorem seller_eq(u:Int)(h0:0≤u)(h1:u<60):sellerL u=(theNames.getD (u.toNat%6) [])++[UInt8.ofNat (48+u.toNat/6)]:=by
 unfold sellerL
 rw[show(u%6).toNat=u.toNat%6 by omega,show(u/6).toNat=u.toNat/6 by omega,dd_one _ (by omega)]
theorem names_len:∀i:Fin 6,(theNames.getD i.val []).length≤5:=by decide
theorem dd_len(k u:Nat)(h:u<10^k)(hk:1≤k):(decDigits u).length≤k:=by
 induction k generalizing u with
 |zero=>omega
 |succ k ih=>
  rw[decDigits]
  split
  ·simp
  ·rename_i h10
   have hk':1≤k:=by
    rcases k with _|k
    ·simp at h;omega
    ·omega
   have:=ih (u/10) (by rw[Nat.pow_succ] at h;omega) hk'
   simp
   omega
theorem good_kind{x:List UInt8}{k n:Int}(h:Good x k n):(isName x&&isWord x)=false∧((isName x||isWord x)=decide (k=1))∧(k≠2→k≠3→n=0)∧0≤n∧(k=2→n≤100000):=by
 have hnw:(isName x&&isWord x)=false:=by
  unfold isName
  cases isWord x<;>simp
 refine⟨hnw, ?_⟩
 rcases h with ⟨c,rfl,hs,rfl,rfl⟩|⟨h0,ha,ht⟩
 ·have hl:isL c=false:=by
   have:=(sg_not hs).2
   simp only[isPt,Bool.or_eq_false_iff] at this
   exact this.1.1
  rw[name_head rfl hl,word_head rfl hl]
  exact⟨rfl,fun _ _=>rfl,Int.le_refl _,fun h=>by omega⟩
 ·unfold tokOf at ht
  by_cases h1:(isWord x||isName x)=true
  ·rw[if_pos h1] at ht
   injection ht with ht
   injection ht with e1 e2
   subst e1;subst e2
   rw[Bool.or_comm] at h1
   exact⟨by rw[h1];rfl,fun _ _=>rfl,Int.le_refl _,fun h=>by omega⟩
  ·rw[if_neg h1] at ht
   rw[Bool.or_comm] at h1
   rw[Bool.not_eq_true _|>.mp h1]
   by_cases h2:0≤cnt x 100000
   ·rw[if_pos h2] at ht
    injection ht with ht
    injection ht with e1 e2
    subst e1;subst e2
    have:=cnt_bd x 100000
    exact⟨rfl,fun h=>absurd rfl h,h2,fun _=>by omega⟩
   ·rw[if_neg h2] at ht
    cases hp:prs x with
    |none=>rw[hp] at ht;cases ht
    |some a=>
     rw[hp] at ht
     injection ht with ht
     injection ht with e1 e2
     subst e1;subst e2
     refine⟨rfl,fun _ h=>absurd rfl h, ?_,fun h=>by omega⟩
     obtain⟨r1,r2⟩:=txt_of_prs hp
     by_cases h3:a<0
     ·exfalso
      unfold txt at r2
      rw[if_pos r1,if_pos h3] at r2
      rw[←r2] at ha
      revert ha
      simp[isPt,isL,isD]
     ·omega
inductive Ex where
 |mk (k n:Int) (nm:List UInt8) (l:List Ex)
def Ex.k:Ex→Int| .mk k _ _ _=>k
def Ex.n:Ex→Int| .mk _ n _ _=>n
def Ex.nm:Ex→List UInt8| .mk _ _ nm _=>nm
def Ex.l:Ex→List Ex| .mk _ _ _ l=>l
mutual
def size:Ex→Nat
 | .mk _ _ _ l=>1+sizes l
def sizes:List Ex→Nat
 |[]=>0
 |x::t=>size x+sizes t
end
theorem size_mk(k n:Int)(nm:List UInt8)(l:List Ex):size (.mk k n nm l)=1+sizes l:=by rw[size]
theorem sizes_nil:sizes []=0:=by rw[sizes]
theorem sizes_cons(x:Ex)(t:List Ex):sizes (x::t)=size x+sizes t:=by rw[sizes]
theorem size_mem{x:Ex}{l:List Ex}(h:x∈l):size x≤sizes l:=by
 induction l with
 |nil=>cases h
 |cons y t ih=>
  rw[sizes_cons]
  rcases List.mem_cons.1 h with rfl|h
  ·omega
  ·have:=ih h;omega
theorem size_pos(x:Ex):1≤size x:=by cases x;rw[size_mk];omega
theorem sizes_append(a b:List Ex):sizes (a++b)=sizes a+sizes b:=by
 induction a with
 |nil=>simp[sizes_nil]
 |cons x t ih=>rw[List.cons_append,sizes_cons,sizes_cons,ih];omega
theorem ex_ind{P:Ex→Prop}(h:∀k n nm l,(∀x∈l,P x)→P (.mk k n nm l)):∀x,P x:=by
 have:∀m x,size x≤m→P x:=by
  intro m
  induction m with
  |zero=>intro x hx;have:=size_pos x;omega
  |succ m ih=>
   intro x hx
   cases x with
   |mk k n nm l=>
    rw[size_mk] at hx
    exact h k n nm l fun y hy=>ih y (by have:=size_mem hy;omega)
 exact fun x=>this _ x (Nat.le_refl _)
def argsN(k:Int):Int:=if k=1∨k=2∨k=3∨k=4∨k=11 then 0 else if k=5∨k=6 then 1 else if k=7∨k=8∨k=9∨k=12 then 2 else if k=10 then 3 else -1
def isCond(k:Int):Bool:=k==11||k==12
def mostN(k:Int):Int:=if k=4∨k=5 then 1000000000000 else if k=6 then 100000 else if k=11 then 1000 else 0
def wordK(k:Int):List UInt8:=
 if k=1 then [108,111,119,101,115,116] else if k=2 then [115,101,99,111,110,100] else if k=3 then [102,114,111,109] else if k=5 then [108,101,115,115] else if k=6 then [99,117,116] else if k=7 then [109,105,110] else if k=8 then [109,97,120]
 else if k=9 then [101,108,115,101] else if k=10 then [105,102] else if k=11 then [109,111,114,101] else if k=12 then [97,98,111,118,101] else []
def fine:Nat→Ex→Bool
 |0,_=>false
 |d+1,x=>decide (argsN x.k=(x.l.length:Int))&&decide (0≤x.n∧x.n≤mostN x.k)&&(decide (x.nm≠[])==decide (x.k=3))&&(decide (x.k≠3)||isName x.nm)&&
  (x.l.zipIdx).all fun p=>(isCond p.1.k==(decide (x.k=10)&&decide (p.2=0)))&&fine d p.1
def tailK(k n:Int)(nm:List UInt8):List UInt8:=if k=3 then nm else if k=5 then [44,32]++txt n else if k=6 then [44,32]++itoa n else if k=11 then itoa n else []
mutual
def text:Ex→List UInt8
 | .mk k n nm l=>if k=4 then txt n else if k=1∨k=2 then wordK k else wordK k++([40]++(texts l++(tailK k n nm++[41])))
def texts:List Ex→List UInt8
 |[]=>[]
 |x::t=>text x++mores t
def mores:List Ex→List UInt8
 |[]=>[]
 |x::t=>[44,32]++(text x++mores t)
end
theorem text_mk(k n:Int)(nm:List UInt8)(l:List Ex):text (.mk k n nm l)=if k=4 then txt n else if k=1∨k=2 then wordK k else wordK k++([40]++(texts l++(tailK k n nm++[41]))):=by rw[text]
theorem texts_nil:texts []=[]:=by rw[texts]
theorem texts_cons(x:Ex)(t:List Ex):texts (x::t)=text x++mores t:=by rw[texts]
theorem mores_nil:mores []=[]:=by rw[mores]
theorem mores_cons(x:Ex)(t:List Ex):mores (x::t)=[44,32]++(text x++mores t):=by rw[mores]
def rightX(x:Ex):Bool:=fine 32 x&& !isCond x.k&&decide (size x≤2000)&&decide ((text x).length≤2000)
theorem fine_eq(d:Nat)(k n:Int)(nm:List UInt8)(l:List Ex):fine (d+1) (.mk k n nm l)=(decide (argsN k=(l.length:Int))&&decide (0≤n∧n≤mostN k)&&(decide (nm≠[])==decide (k=3))&&(decide (k≠3)||isName nm)&&
  (l.zipIdx).all fun p=>(isCond p.1.k==(decide (k=10)&&decide (p.2=0)))&&fine d p.1):=rfl
theorem fine_parts{d:Nat}{k n:Int}{nm:List UInt8}{l:List Ex}(h:fine (d+1) (.mk k n nm l)=true):
  argsN k=(l.length:Int)∧(0≤n∧n≤mostN k)∧(nm≠[]↔k=3)∧(k=3→isName nm=true)∧∀i (hi:i<l.length),isCond l[i].k=(decide (k=10)&&decide (i=0))∧fine d l[i]=true:=by
 rw[fine_eq] at h
 simp only[Bool.and_eq_true,decide_eq_true_eq,List.all_eq_true,beq_iff_eq,Bool.or_eq_true,decide_eq_decide] at h
 obtain⟨⟨⟨⟨h1,h2⟩,h3⟩,h4⟩,h5⟩:=h
 refine⟨h1,h2,h3,fun e=>h4.resolve_left (by simpa using e),fun i hi=> ?_⟩
 have:=h5 (l[i],i) (by rw[List.mem_iff_getElem];exact⟨i,by simpa using hi,by simp⟩)
 exact this
theorem fine_mk{d:Nat}{k n:Int}{nm:List UInt8}{l:List Ex}(h1:argsN k=(l.length:Int))(h2:0≤n∧n≤mostN k)(h3:nm≠[]↔k=3)(h4:k=3→isName nm=true)
  (h5:∀i (hi:i<l.length),isCond l[i].k=(decide (k=10)&&decide (i=0))∧fine d l[i]=true):fine (d+1) (.mk k n nm l)=true:=by
 rw[fine_eq]
 simp only[Bool.and_eq_true,decide_eq_true_eq,List.all_eq_true,beq_iff_eq,Bool.or_eq_true,decide_eq_decide]
 refine⟨⟨⟨⟨h1,h2⟩,h3⟩, ?_⟩, ?_⟩
 ·by_cases e:k=3
  ·exact .inr (h4 e)
  ·exact .inl e
 ·rintro⟨y,i⟩ hy
  obtain⟨j,hj,e⟩:=List.mem_iff_getElem.1 hy
  simp at hj e
  obtain⟨rfl,rfl⟩:=e
  exact h5 j hj
theorem fine_mem{d:Nat}{k n:Int}{nm:List UInt8}{l:List Ex}(h:fine (d+1) (.mk k n nm l)=true){y:Ex}(hy:y∈l):fine d y=true:=by
 obtain⟨i,hi,rfl⟩:=List.mem_iff_getElem.1 hy
 exact((fine_parts h).2.2.2.2 i hi).2
theorem name_parts{x:List UInt8}(h:isName x=true):x≠[]∧x.all isPt=true∧x.length≤12∧∃c t,x=c::t∧isL c=true:=by
 simp only[isName,Bool.and_eq_true,decide_eq_true_eq] at h
 obtain⟨⟨⟨⟨h1,h2⟩,h3⟩,_⟩,h4⟩:=h
 refine⟨h1, ?_,h2, ?_⟩
 ·rw[List.all_eq_true] at h4⊢
  intro c hc
  have:=h4 c hc
  simp only[isPt,this,Bool.true_or]
 ·cases x with
  |nil=>exact absurd rfl h1
  |cons c t=>exact⟨c,t,rfl,by simpa using h3⟩
theorem name_good{x:List UInt8}(h:isName x=true):Good x 1 0:=by
 obtain⟨h1,h2,_⟩:=name_parts h
 refine .inr ⟨h1,h2, ?_⟩
 unfold tokOf;rw[if_pos (by simp[h])]
theorem txt_pos{n:Int}(h:0≤n)(h':n≤1000000000000):txt n=pos n.toNat:=by
 unfold txt;rw[rt_yes (by omega) (by omega),if_pos rfl,if_neg (by omega),show n.natAbs=n.toNat by omega]
theorem itoa_pos{n:Int}(h:0≤n):itoa n=decDigits n.toNat:=by unfold itoa;rw[if_neg (by omega)]
theorem txt_good{n:Int}(h:0≤n)(h':n≤1000000000000):Good (txt n) 3 n:=by
 rw[txt_pos h h']
 have:=good_money n.toNat (by omega)
 rwa [show((n.toNat:Nat):Int)=n by omega] at this
theorem itoa_good{n:Int}(h:0≤n)(h':n≤100000):Good (itoa n) 2 n:=by
 rw[itoa_pos h]
 have:=good_count n.toNat (by omega)
 rwa [show((n.toNat:Nat):Int)=n by omega] at this
theorem txt_head{n:Int}(h:0≤n)(h':n≤1000000000000):∃c t,txt n=c::t∧isD c=true:=by
 obtain⟨c,t,e,hc⟩:=dd_cons (n.toNat/100)
 rw[txt_pos h h']
 exact⟨c,_,by unfold pos;rw[e];rfl,hc⟩
theorem word_kind{k:Int}(h:0≤argsN k)(h4:k≠4):Good (wordK k) 1 0∧(∃c t,wordK k=c::t∧isL c=true)∧(wordK k).length≤6:=by
 have hk:k=1∨k=2∨k=3∨k=5∨k=6∨k=7∨k=8∨k=9∨k=10∨k=11∨k=12:=by
  unfold argsN at h
  split at h
  ·omega
  ·split at h
   ·omega
   ·split at h
    ·omega
    ·split at h<;>omega
 rcases hk with rfl|rfl|rfl|rfl|rfl|rfl|rfl|rfl|rfl|rfl|rfl
 all_goals exact⟨good_word (by decide),⟨_,_,rfl,by decide⟩,by decide⟩
theorem stops_cons{c:UInt8}{t:List UInt8}(h:isPt c=false):stops (c::t)=true:=by simp[stops,h]
theorem mores_stops(l:List Ex){r:List UInt8}(hr:stops r=true):stops (mores l++r)=true:=by
 cases l with
 |nil=>rw[mores_nil];exact hr
 |cons x t=>rw[mores_cons];exact stops_cons (c:=44) (by decide)
theorem tail_stops(k n:Int)(nm r:List UInt8)(h:k≠3)(h':k≠11):stops (tailK k n nm++([41]++r))=true:=by
 unfold tailK
 rw[if_neg h]
 split
 ·exact stops_cons (c:=44) (by decide)
 ·split
  ·exact stops_cons (c:=44) (by decide)
  ·exact stops_cons (c:=41) (by decide)
theorem most_le(k:Int):mostN k≤1000000000000∧(k=6∨k=11→mostN k≤100000)∧(k≠4→k≠5→k≠6→k≠11→mostN k=0):=by
 unfold mostN
 refine⟨?_,fun h=> ?_,fun h1 h2 h3 h4=> ?_⟩
 ·split
  ·omega
  ·split
   ·omega
   ·split<;>omega
 ·rcases h with rfl|rfl<;>decide
 ·rw[if_neg (by omega),if_neg h3,if_neg h4]
end Go.Proofs.YtjhjdiaomnpkmaaGreatDoor
