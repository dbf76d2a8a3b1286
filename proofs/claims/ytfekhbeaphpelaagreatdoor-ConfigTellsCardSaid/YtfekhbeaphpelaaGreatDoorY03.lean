/- The document's own readings of numbers a. -/

import Derived.Test.YtfekhbeaphpelaaGreatDoorY02
set_option maxRecDepth 100000
set_option maxHeartbeats 8000000
set_option linter.unusedVariables false
set_option linter.unusedSimpArgs false
namespace Go.Proofs.YtfekhbeaphpelaaGreatDoor
open Go.RowKit Go.Lib
def num(n:Int):ByteArray:=B (itoa n)
theorem rdig_any(w0:World):∀(k:Nat)(n:Int),0≤n→n.toNat≤k→n≤9223372036854775807→∀w,Rel w0 w→
  Calls Tryz.prog 71 #[yI n] w fun e w'=>e= .returned (.string (B (decDigits n.toNat)))∧Rel w0 w':=by
 intro k
 induction k with
 |zero=>
  intro n h0 hk h1 w hr
  obtain rfl:n=0:=by omega
  have hconv:∀w:World,(convert 98 9 (.slice (some ⟨w.heap.size,0,none⟩) 1 1)).run Tryz.prog (w.alloc (.cells #[.int .u8 48] 5))= .ok (.string (B [dgt 0])) (w.alloc (.cells #[.int .u8 48] 5)):=fun w=>byte_string w 0 (by omega) (by omega)
  go_enter Tryz.func71,Tryz.ntmps71
  go_wp2_with (fail)
  go_ret
  exact⟨ret_str (by rw[dd_last (by omega) (by omega)];rfl),hr.alloc _⟩
 |succ k ih=>
  intro n h0 hk h1 w hr
  have b1:0≤n%10:=by omega
  have b2:n%10≤9:=by omega
  have hconv:=fun w:World=>byte_string w (n%10) b1 b2
  by_cases h:10≤n
  ·have HS:=yH (dd_step h0 h)
   have z1:=dd_size (n/10) (by omega)
   have z2:(B [dgt (n%10)]).size≤1:=Nat.le_refl _
   have z3: ¬9223372036854775807<(B (decDigits (n/10).toNat)).size+(B [dgt (n%10)]).size:=by omega
   go_enter Tryz.func71,Tryz.ntmps71
   go_wp2_with ((go_at_call 71;(with_reducible refine(ih (n/10) (by omega) (by omega) (by omega) _ (hr.alloc _)).mono ?_);rintro e w' ⟨rfl,hr'⟩))
   go_ret
   exact⟨ret_str (by rw[HS.out,B_append]),hr'⟩
  ·have HS:=yH (dd_last h0 h)
   go_enter Tryz.func71,Tryz.ntmps71
   go_wp2_with (fail)
   go_ret
   exact⟨ret_str (by rw[HS.out]),hr.alloc _⟩
theorem digits_any(n:Int)(h0:0≤n)(h1:n≤9223372036854775807)(w0 w:World)(hr:Rel w0 w):
  Calls Tryz.prog 71 #[yI n] w fun e w'=>e= .returned (.string (B (decDigits n.toNat)))∧Rel w0 w':=rdig_any w0 _ n h0 (Nat.le_refl _) h1 w hr
theorem dash(x:List UInt8):(⟨#[45]⟩:ByteArray)++B x=B (45::x):=B_append [45] x
def tx(a:Int):ByteArray:=B (txt a)
theorem num_pos(n:Int)(h:0≤n):num n=B (decDigits n.toNat):=by unfold num itoa;rw[if_neg (by omega)]
theorem num_size(n:Int)(h:0≤n)(h':n≤9223372036854775807):(num n).size≤19:=by rw[num_pos n h];exact dd_size n h'
theorem tx_no{a:Int}(h:rt a=false):(⟨#[]⟩:ByteArray)=tx a:=by unfold tx txt;rw[h];rfl
theorem tx_parts(a:Int)(h:0≤a)(h':a≤1000000000000):B (decDigits (a/100).toNat)++(⟨#[46]⟩:ByteArray)++B (decDigits (a/10%10).toNat)++B (decDigits (a%10).toNat)=tx a:=by
 have e:(⟨#[46]⟩:ByteArray)=B [46]:=rfl
 rw[e,B_append,B_append,B_append]
 unfold tx txt
 rw[rt_yes (by omega) h',if_pos rfl,if_neg (by omega)]
 unfold pos
 rw[show(a/100).toNat=a.natAbs/100 by omega,show(a/10%10).toNat=a.natAbs/10%10 by omega,show(a%10).toNat=a.natAbs%10 by omega]
 simp
theorem tx_neg(a:Int)(h:a<0)(h': -1000000000000≤a):(⟨#[45]⟩:ByteArray)++tx (-a)=tx a:=by
 unfold tx
 rw[dash]
 unfold txt
 rw[rt_yes (a:= -a) (by omega) (by omega),rt_yes (a:=a) h' (by omega),if_pos rfl,if_pos rfl,if_neg (by omega),if_pos h,show(-a).natAbs=a.natAbs by omega]
theorem tx_size(a:Int):(tx a).size≤43:=by
 unfold tx txt
 rw[B_size]
 split
 ·rename_i h
  have hb:=rt_iff.1 h
  have h1:(pos a.natAbs).length≤22:=by
   unfold pos
   have:=nd_le 12 (a.natAbs/100) (by have e:10^12=1000000000000:=by decide
                                     omega) (by omega)
   rw[decDigits_one (show a.natAbs/10%10<10 by omega),decDigits_one (show a.natAbs%10<10 by omega)]
   simp;omega
  split<;>simp<;>omega
 ·simp
theorem rtext_pos(a:Int)(h0:0≤a)(h1:a≤1000000000000)(w0 w:World)(hr:Rel w0 w):
  Calls Tryz.prog 50 #[yI a] w fun e w'=>e= .returned (.string (tx a))∧Rel w0 w':=by
 have z1:=dd_size (a/100) (by omega)
 have z2:=dd_size (a/10%10) (by omega)
 have z3:=dd_size (a%10) (by omega)
 have HS:=yH (tx_parts a h0 h1)
 go_enter Tryz.func50,Tryz.ntmps50
 go_wp2_with ((go_at_call 71;(with_reducible refine(digits_any _ (by omega) (by omega) _ _ (by assumption)).mono ?_);rintro e w' ⟨rfl,hr'⟩))
 go_ret
 exact⟨ret_str HS.out,by assumption⟩
theorem rtext_any(a:Int)(h0: -9223372036854775808≤a)(h1:a≤9223372036854775807)(w0 w:World)(hr:Rel w0 w):
  Calls Tryz.prog 50 #[yI a] w fun e w'=>e= .returned (.string (tx a))∧Rel w0 w':=by
 by_cases b1:a< -1000000000000
 ·have HS:=yH (tx_no (a:=a) (rt_no (.inl b1)))
  go_enter Tryz.func50,Tryz.ntmps50
  go_wp2_with (fail)
  go_ret
  exact⟨ret_str HS.out,hr⟩
 ·by_cases b2:1000000000000<a
  ·have HS:=yH (tx_no (a:=a) (rt_no (.inr b2)))
   go_enter Tryz.func50,Tryz.ntmps50
   go_wp2_with (fail)
   go_ret
   exact⟨ret_str HS.out,hr⟩
  ·by_cases hn:0≤a
   ·exact rtext_pos a hn (by omega) w0 w hr
   ·have HS:=yH (tx_neg a (by omega) (by omega))
    have z1:=tx_size (-a)
    go_enter Tryz.func50,Tryz.ntmps50
    go_wp2_with ((go_at_call 50;(with_reducible refine(rtext_pos _ (by omega) (by omega) _ _ (by assumption)).mono ?_);rintro e w' ⟨rfl,hr'⟩))
    go_ret
    exact⟨ret_str HS.out,by assumption⟩
theorem drop_step(s:ByteArray)(pos:Nat)(h:pos<s.size):s.data.toList.drop pos=(s[pos]'h)::s.data.toList.drop (pos+1):=by
 rw[List.drop_eq_getElem_cons (by simpa using h)]
 rfl
theorem drop_end(s:ByteArray)(pos:Nat)(h: ¬pos<s.size):s.data.toList.drop pos=[]:=by
 apply List.drop_eq_nil_of_le
 have:s.data.toList.length=s.size:=by simp
 omega
theorem B_zero(c:UInt8)(t:List UInt8)(h:0<(B (c::t)).size):(B (c::t))[0]'h=c:=rfl
theorem take_snoc(l:List UInt8)(k:Nat)(h:k<l.length):l.take (k+1)=l.take k++[l[k]]:=by
 rw[List.take_succ_eq_append_getElem h]
theorem val_snoc(t:List UInt8)(c:UInt8):val (t++[c]) 0=val t 0*10+((c.toNat:Int)-48):=by rw[val_append];rfl
theorem allD_snoc(t:List UInt8)(c:UInt8):allD (t++[c])=(allD t&&isD c):=by rw[allD_append];simp[allD]
theorem allD_take{l:List UInt8}(k:Nat)(h:allD (l.take k)=false):allD l=false:=by
 cases e:allD l
 ·rfl
 ·unfold allD at e h
  rw[List.all_eq_true] at e
  rw[←Bool.not_eq_true,List.all_eq_true] at h
  exact absurd (fun x hx=>e x (List.mem_of_mem_take hx)) h
theorem rcount_list(l:List UInt8)(most:Int)(hl:l.length≤9223372036854775807)(w0 w:World)(hr:Rel w0 w):
  Calls Tryz.prog 81 #[.string (B l),yI most] w fun e w'=>e= .returned (yI (cnt l most))∧Rel w0 w':=by
 cases l with
 |nil=>
  have HT:=B_toList []
  go_enter Tryz.func81,Tryz.ntmps81
  go_wp2_with (fail)
  go_ret
  exact⟨ret_int (cnt_no (.inl rfl)).symm,hr⟩
 |cons c t=>
  have HT:=B_toList (c::t)
  have HB:=B_size (c::t)
  have H0:=B_zero c t
  by_cases h13:13<t.length+1
  ·have HS:=yH (cnt_long (l:=c::t) (most:=most) (by simpa using h13))
   have h13':(13:Int)<(t.length:Int)+1:=by omega
   go_enter Tryz.func81,Tryz.ntmps81
   go_wp2_with (fail)
   go_ret
   exact⟨ret_int HS.out.symm,hr⟩
  ·by_cases h48:1<t.length+1∧c.toNat=48
   ·have HS:=yH (cnt_no (l:=c::t) (most:=most) (.inr ⟨by simpa using h48.1,by simp;exact UInt8.toNat_inj.1 h48.2⟩))
    have e1:(1:Int)<(t.length:Int)+1:=by omega
    have e2:((c.toNat:Int)==48)=true:=by simp;omega
    have e3:(t.length:Int)+1≤13:=by omega
    clear h48 h13
    go_enter Tryz.func81,Tryz.ntmps81
    go_wp2_with (fail)
    go_ret
    exact⟨ret_int HS.out.symm,hr⟩
   ·have e3:(t.length:Int)+1≤13:=by omega
    have HH:(c::t).length≤1∨(c::t).head?≠some 48:=by
     by_cases h:t.length=0
     ·left;simp[h]
     ·right;intro e;simp at e;exact h48 ⟨by omega,by rw[e];rfl⟩
    have e2:(1:Int)<(t.length:Int)+1→((c.toNat:Int)==48)=false:=fun h=>by simp;omega
    have HH:=yH HH
    go_enter Tryz.func81,Tryz.ntmps81
    by_cases e1:(1:Int)<(t.length:Int)+1
    all_goals
     try have e2':=e2 e1
     clear e2 h48
     clear hl HB h13
     have HB:=B_size (c::t)
     go_wp2_with (fail)
     go_loop [5,6] (fun n i=>∃k:Nat,k≤t.length+1∧i=yI (k:Int)∧n=yI (val ((c::t).take k) 0)∧Hid (allD ((c::t).take k)=true)) (fun _ i=>t.length+1-(RowKit.intOf i).toNat)
     case atStart=>exact⟨0,Nat.zero_le _,rfl,rfl,yH rfl⟩
     case round=>
      obtain⟨k,hk,rfl,rfl,HA⟩:=hrel
      have v0:0≤val ((c::t).take k) 0:=val_ge HA.out (by omega)
      have v1:val ((c::t).take k) 0≤10000000000000:=by
       have h1:=val_lt HA.out (n:=0) (by omega)
       have h2:(10:Int)^((c::t).take k).length≤10^13:=by
        have:10^((c::t).take k).length≤10^13:=Nat.pow_le_pow_right (by omega) (by rw[List.length_take];simp;omega)
        exact_mod_cast this
       have e13:(10:Int)^13=10000000000000:=by decide
       rw[e13] at h2
       rw[show(0:Int)+1=1 from rfl,Int.one_mul] at h1
       exact Int.le_trans (Int.le_of_lt h1) h2
      by_cases hlt:k<t.length+1
      ·have hlt':k<(c::t).length:=by simpa using hlt
       obtain⟨x,hx⟩:∃x,x=(c::t)[k]:=⟨_,rfl⟩
       have hg:∀h,(B (c::t))[k]'h=x:=fun h=>by rw[hx];rfl
       have HT1:=yH (take_snoc (c::t) k hlt')
       rw[←hx] at HT1
       clear hx
       by_cases g:48≤x.toNat∧x.toNat≤57
       ·obtain⟨g1,g2⟩:=g
        have HV:=yH (show val ((c::t).take (k+1)) 0=val ((c::t).take k) 0*10+((x.toNat:Int)-48) by rw[HT1.out,val_snoc])
        have HD:=yH (show allD ((c::t).take (k+1))=true by rw[HT1.out,allD_snoc,HA.out,isD_iff.2 ⟨g1,g2⟩];rfl)
        go_wp2_with (fail)
        go_round
        case rel=>exact⟨k+1,by omega,by go_num,by rw[HV.out];go_num,HD⟩
        case measure=>simp[RowKit.intOf];omega
       ·have HN:=yH (cnt_not (l:=c::t) (most:=most) (allD_take (k+1) (by rw[HT1.out,allD_snoc,HA.out];simp[isD];omega)))
        by_cases g1:x.toNat<48
        ·clear g
         go_wp2_with (fail)
         go_ret
         exact⟨ret_int HN.out.symm,hr⟩
        ·have g2:57<x.toNat:=by omega
         clear g
         go_wp2_with (fail)
         go_ret
         exact⟨ret_int HN.out.symm,hr⟩
      ·have hk':(c::t).take k=c::t:=List.take_of_length_le (by simp;omega)
       rw[hk'] at HA v0 v1⊢
       have HC:=yH (cnt_yes (most:=most) HA.out rfl HH.out)
       clear hk'
       by_cases m1:most<val (c::t) 0
       ·go_wp2_with (fail)
        go_ret
        exact⟨ret_int (by rw[HC.out,if_pos (.inl m1)]),hr⟩
       ·by_cases m2:1000000000000<val (c::t) 0
        ·go_wp2_with (fail)
         go_ret
         exact⟨ret_int (by rw[HC.out,if_pos (.inr m2)]),hr⟩
        ·go_wp2_with (fail)
         go_ret
         exact⟨ret_int (by rw[HC.out,if_neg (by omega)]),hr⟩
theorem rcount_any(s:ByteArray)(most:Int)(hl:s.size≤9223372036854775807)(w0 w:World)(hr:Rel w0 w):
  Calls Tryz.prog 81 #[.string s,yI most] w fun e w'=>e= .returned (yI (cnt s.data.toList most))∧Rel w0 w':=by
 have:=rcount_list s.data.toList most (by simpa using hl) w0 w hr
 rwa [B_of] at this
theorem B_extract(l:List UInt8)(j:Nat):(B l).extract 0 j=B (l.take j):=by
 apply ByteArray.ext
 simp[B]
theorem B_tail(c:UInt8)(r:List UInt8):(B (c::r)).extract 1 (r.length+1)=B r:=by
 apply ByteArray.ext
 simp[B]
theorem rtext_at(x A:Int)(h:x=A)(h0: -9223372036854775808≤x)(h1:x≤9223372036854775807)(w0 w:World)(hr:Rel w0 w):
  Calls Tryz.prog 50 #[yI x] w fun e w'=>e= .returned (.string (tx A))∧Rel w0 w':=by subst h;exact rtext_any x h0 h1 w0 w hr
theorem tx_toList(a:Int):(tx a).toList=txt a:=B_toList _
theorem none1{l:List UInt8}(h:prs l=none):0=prs1 l:=by unfold prs1;rw[h];rfl
theorem none2{l:List UInt8}(h:prs l=none):20=prs2 l:=by unfold prs2;rw[h];rfl
theorem some1{l:List UInt8}{a:Int}(h:prs l=some a):a=prs1 l:=by unfold prs1;rw[h];rfl
theorem some2{l:List UInt8}{a:Int}(h:prs l=some a):0=prs2 l:=by unfold prs2;rw[h];rfl
theorem parts_at{t:List UInt8}{m:Nat}(h:t.length=m+4)(hd:t[m+1]?=some 46):∃c d,t=t.take (m+1)++[46,c,d]∧t[m+2]?=some c∧t[m+3]?=some d:=by
 have:=ref_parts (t:=t) (by omega) (by rw[h];exact hd)
 rw[h] at this
 exact this
theorem B_at{t:List UInt8}{k:Nat}{c:UInt8}(h:t[k]?=some c)(hh:k<(B t).size):(B t)[k]'hh=c:=by
 have e:(B t)[k]'hh=t[k]'(by rw[B_size] at hh;exact hh):=rfl
 rw[e]
 rw[List.getElem?_eq_getElem (by rw[B_size] at hh;exact hh)] at h
 exact Option.some.inj h
theorem rparse_list(l:List UInt8)(hl:l.length≤9223372036854775807)(w0 w:World)(hr:Rel w0 w):
  Calls Tryz.prog 82 #[.string (B l)] w fun e w'=>Two e (prs1 l) (prs2 l)∧Rel w0 w':=by
 cases l with
 |nil=>
  have HT:=B_toList []
  go_enter Tryz.func82,Tryz.ntmps82
  go_wp2_with (fail)
  go_ret2
  exact⟨ret_two rfl rfl,hr⟩
 |cons c r=>
  have HT:=B_toList (c::r)
  have H0:=B_zero c r
  by_cases h45:c.toNat=45
  ·have h45':((c.toNat:Int)==45)=true:=by simp;omega
   have hc:c=45:=UInt8.toNat_inj.1 h45
   have eb:body (c::r)=r:=by subst hc;rfl
   have en:(if negL (c::r) then (-1:Int) else 1)= -1:=by subst hc;rfl
   have HX:=B_tail c r
   have hlr:r.length≤9223372036854775806:=by simpa using hl
   clear hc h45
   have HB:=B_size (c::r)
   by_cases h4:r.length<4
   ·have HR:=yH (ref_short (l:=c::r) (by rw[eb];exact h4))
    have HBt:=B_size r
    have q:((r).length:Int)<4:=by omega
    have q':(r.length:Int)<4:=by omega
    clear eb en h4
    go_enter Tryz.func82,Tryz.ntmps82
    go_wp2_with (fail)
    go_ret2
    exact⟨ret_two (none1 HR.out) (none2 HR.out),hr⟩
   ·obtain⟨m,hm⟩:∃m,r.length=m+4:=⟨r.length-4,by omega⟩
    have HBt:(B r).size=m+4:=by rw[B_size];exact hm
    have hmb:(m:Int)≤9223372036854775803:=by omega
    obtain⟨d,hd⟩:∃d,r[m+1]?=some d:=⟨_,List.getElem?_eq_getElem (by omega)⟩
    have HD:∀h,(B r)[m+1]'h=d:=fun h=>B_at hd h
    by_cases h46:d.toNat=46
    ·have hd':d=46:=UInt8.toNat_inj.1 h46
     have h46':((d.toNat:Int) !=46)=false:=by simp;omega
     obtain⟨e1,e2,hp,he1,he2⟩:=parts_at hm (by rw[hd,hd'])
     have HE1:∀h,(B r)[m+2]'h=e1:=fun h=>B_at he1 h
     have HE2:∀h,(B r)[m+3]'h=e2:=fun h=>B_at he2 h
     have HXT:=B_extract r (m+1)
     obtain⟨x,hx⟩:∃x,r.take (m+1)=x:=⟨_,rfl⟩
     rw[hx] at hp HXT
     have zx:(B x).size≤9223372036854775807:=by rw[B_size,←hx,List.length_take];omega
     obtain⟨v,hv⟩:∃v,cnt x 10000000000=v:=⟨_,rfl⟩
     have HW:=yH (show cnt (B x).data.toList 10000000000=v by rw[B_list];exact hv)
     have vb:=cnt_bd x 10000000000
     rw[hv] at vb
     have v1: -1≤v:=by omega
     have v2:v≤10000000000:=by omega
     obtain⟨A,hA⟩:∃A,A= -1*(v*100+two e1 e2):=⟨_,rfl⟩
     have HA:=yH (show A= -1*(v*100+(((e1.toNat:Int)-48)*10+((e2.toNat:Int)-48))) from hA)
     have HNO:=yH (fun h=>ref_no (eb.trans hp) (l:=c::r) h)
     have HYES:=yH (fun a b d=>ref_yes (eb.trans hp) (l:=c::r) a b d)
     rw[hv,en,←hA] at HYES
     rw[hv] at HNO
     have HTA:=tx_toList A
     have HB2:(B (c::r)).size=m+5:=by rw[HB];simp;omega
     rw[show r.length+1=m+5 by omega] at HX
     clear HB
     clear eb en h4 hm hd hp he1 he2 hx hv vb hA hd' h46
     go_enter Tryz.func82,Tryz.ntmps82
     go_wp2_with ((go_at_call 81;(with_reducible refine(int_at v (rcount_any _ _ (by omega) _ _ (by assumption)) HW).mono ?_);rintro e w' ⟨rfl,hr'⟩))
     go_loop [7,8] (fun t i=>(i=yI ((m:Int)+2)∧t=yI 0)∨(i=yI ((m:Int)+3)∧t=yI ((e1.toNat:Int)-48)∧48≤e1.toNat∧e1.toNat≤57)∨(i=yI ((m:Int)+4)∧t=yI (10*((e1.toNat:Int)-48)+((e2.toNat:Int)-48))∧48≤e1.toNat∧e1.toNat≤57∧48≤e2.toNat∧e2.toNat≤57)) (fun _ i=>m+4-(RowKit.intOf i).toNat)
     case atStart=>exact .inl ⟨by go_num,rfl⟩
     case round=>
      rcases hrel with ⟨rfl,rfl⟩|⟨rfl,rfl,g1,g2⟩|⟨rfl,rfl,g1,g2,g3,g4⟩
      ·by_cases g1:e1.toNat<48
       ·have HN:=yH (HNO.out (.inr (.inl (by simp[isD];omega))))
        go_wp2_with (fail)
        go_ret2
        exact⟨ret_two (none1 HN.out) (none2 HN.out),by assumption⟩
       ·by_cases g2:57<e1.toNat
        ·have HN:=yH (HNO.out (.inr (.inl (by simp[isD];omega))))
         go_wp2_with (fail)
         go_ret2
         exact⟨ret_two (none1 HN.out) (none2 HN.out),by assumption⟩
        ·go_wp2_with (fail)
         go_round
         case rel=>exact .inr (.inl ⟨by go_num,by go_num,by omega,by omega⟩)
         case measure=>simp[RowKit.intOf];omega
      ·by_cases g3:e2.toNat<48
       ·have HN:=yH (HNO.out (.inr (.inr (by simp[isD];omega))))
        go_wp2_with (fail)
        go_ret2
        exact⟨ret_two (none1 HN.out) (none2 HN.out),by assumption⟩
       ·by_cases g4:57<e2.toNat
        ·have HN:=yH (HNO.out (.inr (.inr (by simp[isD];omega))))
         go_wp2_with (fail)
         go_ret2
         exact⟨ret_two (none1 HN.out) (none2 HN.out),by assumption⟩
        ·go_wp2_with (fail)
         go_round
         case rel=>exact .inr (.inr ⟨by go_num,by go_num,by omega,by omega,by omega,by omega⟩)
         case measure=>simp[RowKit.intOf];omega
      ·by_cases hv:v<0
       ·have HN:=yH (HNO.out (.inl hv))
        go_wp2_with ((go_at_call 50;(with_reducible refine(rtext_at _ A (by have:=HA.out;omega) (by omega) (by omega) _ _ (by assumption)).mono ?_);rintro e w' ⟨rfl,hr'⟩))
        go_ret2
        exact⟨ret_two (none1 HN.out) (none2 HN.out),by assumption⟩
       ·have HY:=yH (HYES.out (by omega) (isD_iff.2 ⟨g1,g2⟩) (isD_iff.2 ⟨g3,g4⟩))
        by_cases ht:txt A=c::r
        ·have HY:=yH (HY.out.trans (if_pos ht))
         have ht':(txt A==c::r)=true:=by simpa using ht
         clear ht
         go_wp2_with ((go_at_call 50;(with_reducible refine(rtext_at _ A (by have:=HA.out;omega) (by omega) (by omega) _ _ (by assumption)).mono ?_);rintro e w' ⟨rfl,hr'⟩))
         go_ret2
         exact⟨ret_two (by have h1:=HA.out;have h2:=some1 HY.out;omega) (some2 HY.out),by assumption⟩
        ·have HN:=yH (HY.out.trans (if_neg ht))
         have ht':(txt A==c::r)=false:=by simpa using ht
         clear ht
         go_wp2_with ((go_at_call 50;(with_reducible refine(rtext_at _ A (by have:=HA.out;omega) (by omega) (by omega) _ _ (by assumption)).mono ?_);rintro e w' ⟨rfl,hr'⟩))
         go_ret2
         exact⟨ret_two (none1 HN.out) (none2 HN.out),by assumption⟩
    ·have h46':((d.toNat:Int) !=46)=true:=by simp;omega
     have HR:=yH (ref_dot (l:=c::r) (by rw[eb];omega) (by rw[eb,hm,show m+4-3=m+1 by omega,hd];intro e;exact h46 (by rw[Option.some.inj e];rfl)))
     have HB2:(B (c::r)).size=m+5:=by rw[HB];simp;omega
     rw[show r.length+1=m+5 by omega] at HX
     clear HB
     clear eb en h4 h46 hm hd
     go_enter Tryz.func82,Tryz.ntmps82
     go_wp2_with (fail)
     go_ret2
     exact⟨ret_two (none1 HR.out) (none2 HR.out),hr⟩
  ·have h45':((c.toNat:Int)==45)=false:=by simp;omega
   have hn:negL (c::r)=false:=by
    unfold negL;simp;intro e;exact h45 (by rw[e];rfl)
   have eb:body (c::r)=c::r:=by unfold body;rw[hn];rfl
   have en:(if negL (c::r) then (-1:Int) else 1)=1:=by rw[hn];rfl
   have hlr:(c::r).length≤9223372036854775807:=hl
   clear hn h45
   by_cases h4:(c::r).length<4
   ·have HR:=yH (ref_short (l:=c::r) (by rw[eb];exact h4))
    have HBt:=B_size (c::r)
    have q:(((c::r)).length:Int)<4:=by omega
    have q':(r.length:Int)+1<4:=by simp at h4;omega
    clear eb en h4
    go_enter Tryz.func82,Tryz.ntmps82
    go_wp2_with (fail)
    go_ret2
    exact⟨ret_two (none1 HR.out) (none2 HR.out),hr⟩
   ·obtain⟨m,hm⟩:∃m,(c::r).length=m+4:=⟨(c::r).length-4,by omega⟩
    have HBt:(B (c::r)).size=m+4:=by rw[B_size];exact hm
    have hmb:(m:Int)≤9223372036854775803:=by omega
    obtain⟨d,hd⟩:∃d,(c::r)[m+1]?=some d:=⟨_,List.getElem?_eq_getElem (by omega)⟩
    have HD:∀h,(B (c::r))[m+1]'h=d:=fun h=>B_at hd h
    by_cases h46:d.toNat=46
    ·have hd':d=46:=UInt8.toNat_inj.1 h46
     have h46':((d.toNat:Int) !=46)=false:=by simp;omega
     obtain⟨e1,e2,hp,he1,he2⟩:=parts_at hm (by rw[hd,hd'])
     have HE1:∀h,(B (c::r))[m+2]'h=e1:=fun h=>B_at he1 h
     have HE2:∀h,(B (c::r))[m+3]'h=e2:=fun h=>B_at he2 h
     have HXT:=B_extract (c::r) (m+1)
     obtain⟨x,hx⟩:∃x,(c::r).take (m+1)=x:=⟨_,rfl⟩
     rw[hx] at hp HXT
     have zx:(B x).size≤9223372036854775807:=by rw[B_size,←hx,List.length_take];omega
     obtain⟨v,hv⟩:∃v,cnt x 10000000000=v:=⟨_,rfl⟩
     have HW:=yH (show cnt (B x).data.toList 10000000000=v by rw[B_list];exact hv)
     have vb:=cnt_bd x 10000000000
     rw[hv] at vb
     have v1: -1≤v:=by omega
     have v2:v≤10000000000:=by omega
     obtain⟨A,hA⟩:∃A,A=1*(v*100+two e1 e2):=⟨_,rfl⟩
     have HA:=yH (show A=1*(v*100+(((e1.toNat:Int)-48)*10+((e2.toNat:Int)-48))) from hA)
     have HNO:=yH (fun h=>ref_no (eb.trans hp) (l:=c::r) h)
     have HYES:=yH (fun a b d=>ref_yes (eb.trans hp) (l:=c::r) a b d)
     rw[hv,en,←hA] at HYES
     rw[hv] at HNO
     have HTA:=tx_toList A
     clear eb en h4 hm hd hp he1 he2 hx hv vb hA hd' h46
     go_enter Tryz.func82,Tryz.ntmps82
     go_wp2_with ((go_at_call 81;(with_reducible refine(int_at v (rcount_any _ _ (by omega) _ _ (by assumption)) HW).mono ?_);rintro e w' ⟨rfl,hr'⟩))
     go_loop [7,8] (fun t i=>(i=yI ((m:Int)+2)∧t=yI 0)∨(i=yI ((m:Int)+3)∧t=yI ((e1.toNat:Int)-48)∧48≤e1.toNat∧e1.toNat≤57)∨(i=yI ((m:Int)+4)∧t=yI (10*((e1.toNat:Int)-48)+((e2.toNat:Int)-48))∧48≤e1.toNat∧e1.toNat≤57∧48≤e2.toNat∧e2.toNat≤57)) (fun _ i=>m+4-(RowKit.intOf i).toNat)
     case atStart=>exact .inl ⟨by go_num,rfl⟩
     case round=>
      rcases hrel with ⟨rfl,rfl⟩|⟨rfl,rfl,g1,g2⟩|⟨rfl,rfl,g1,g2,g3,g4⟩
      ·by_cases g1:e1.toNat<48
       ·have HN:=yH (HNO.out (.inr (.inl (by simp[isD];omega))))
        go_wp2_with (fail)
        go_ret2
        exact⟨ret_two (none1 HN.out) (none2 HN.out),by assumption⟩
       ·by_cases g2:57<e1.toNat
        ·have HN:=yH (HNO.out (.inr (.inl (by simp[isD];omega))))
         go_wp2_with (fail)
         go_ret2
         exact⟨ret_two (none1 HN.out) (none2 HN.out),by assumption⟩
        ·go_wp2_with (fail)
         go_round
         case rel=>exact .inr (.inl ⟨by go_num,by go_num,by omega,by omega⟩)
         case measure=>simp[RowKit.intOf];omega
      ·by_cases g3:e2.toNat<48
       ·have HN:=yH (HNO.out (.inr (.inr (by simp[isD];omega))))
        go_wp2_with (fail)
        go_ret2
        exact⟨ret_two (none1 HN.out) (none2 HN.out),by assumption⟩
       ·by_cases g4:57<e2.toNat
        ·have HN:=yH (HNO.out (.inr (.inr (by simp[isD];omega))))
         go_wp2_with (fail)
         go_ret2
         exact⟨ret_two (none1 HN.out) (none2 HN.out),by assumption⟩
        ·go_wp2_with (fail)
         go_round
         case rel=>exact .inr (.inr ⟨by go_num,by go_num,by omega,by omega,by omega,by omega⟩)
         case measure=>simp[RowKit.intOf];omega
      ·by_cases hv:v<0
       ·have HN:=yH (HNO.out (.inl hv))
        go_wp2_with ((go_at_call 50;(with_reducible refine(rtext_at _ A (by have:=HA.out;omega) (by omega) (by omega) _ _ (by assumption)).mono ?_);rintro e w' ⟨rfl,hr'⟩))
        go_ret2
        exact⟨ret_two (none1 HN.out) (none2 HN.out),by assumption⟩
       ·have HY:=yH (HYES.out (by omega) (isD_iff.2 ⟨g1,g2⟩) (isD_iff.2 ⟨g3,g4⟩))
        by_cases ht:txt A=c::r
        ·have HY:=yH (HY.out.trans (if_pos ht))
         have ht':(txt A==c::r)=true:=by simpa using ht
         clear ht
         go_wp2_with ((go_at_call 50;(with_reducible refine(rtext_at _ A (by have:=HA.out;omega) (by omega) (by omega) _ _ (by assumption)).mono ?_);rintro e w' ⟨rfl,hr'⟩))
         go_ret2
         exact⟨ret_two (by have h1:=HA.out;have h2:=some1 HY.out;omega) (some2 HY.out),by assumption⟩
        ·have HN:=yH (HY.out.trans (if_neg ht))
         have ht':(txt A==c::r)=false:=by simpa using ht
         clear ht
         go_wp2_with ((go_at_call 50;(with_reducible refine(rtext_at _ A (by have:=HA.out;omega) (by omega) (by omega) _ _ (by assumption)).mono ?_);rintro e w' ⟨rfl,hr'⟩))
         go_ret2
         exact⟨ret_two (none1 HN.out) (none2 HN.out),by assumption⟩
    ·have h46':((d.toNat:Int) !=46)=true:=by simp;omega
     have HR:=yH (ref_dot (l:=c::r) (by rw[eb];omega) (by rw[eb,hm,show m+4-3=m+1 by omega,hd];intro e;exact h46 (by rw[Option.some.inj e];rfl)))
     clear eb en h4 h46 hm hd
     go_enter Tryz.func82,Tryz.ntmps82
     go_wp2_with (fail)
     go_ret2
     exact⟨ret_two (none1 HR.out) (none2 HR.out),hr⟩
theorem rparse_any(s:ByteArray)(hl:s.size≤9223372036854775807)(w0 w:World)(hr:Rel w0 w):
  Calls Tryz.prog 82 #[.string s] w fun e w'=>Two e (prs1 s.data.toList) (prs2 s.data.toList)∧Rel w0 w':=by
 have:=rparse_list s.data.toList (by simpa using hl) w0 w hr
 rwa [B_of] at this
theorem rletter_any(c:UInt8)(w:World):Calls Tryz.prog 57 #[.int .u8 (c.toNat:Int)] w fun e w'=>e= .returned (.bool (isL c))∧w=w':=by
 by_cases h1:97≤c.toNat<;>by_cases h2:c.toNat≤122
 all_goals
  go_enter Tryz.func57,Tryz.ntmps57
  go_wp2
  all_goals
   go_ret
   exact⟨ret_bool (Bool.eq_iff_iff.2 (by simp[isL];omega)),rfl⟩
theorem rdigit_any(c:UInt8)(w:World):Calls Tryz.prog 58 #[.int .u8 (c.toNat:Int)] w fun e w'=>e= .returned (.bool (isD c))∧w=w':=by
 by_cases h1:48≤c.toNat<;>by_cases h2:c.toNat≤57
 all_goals
  go_enter Tryz.func58,Tryz.ntmps58
  go_wp2
  all_goals
   go_ret
   exact⟨ret_bool (Bool.eq_iff_iff.2 (by simp[isD];omega)),rfl⟩
theorem list_of{a b:ByteArray}:(a.toList==b.toList)=true↔a=b:=by
 rw[beq_iff_eq]
 have e1:=B_toList a.data.toList
 have e2:=B_toList b.data.toList
 rw[B_of] at e1 e2
 rw[e1,e2]
 constructor
 ·intro h;rw[←B_of a,h,B_of]
 ·intro h;rw[h]
theorem list_ne{a b:ByteArray}(h:a≠b):(a.toList==b.toList)=false:=by
 cases e:(a.toList==b.toList)
 ·rfl
 ·exact absurd (list_of.1 e) h
theorem word_yes{s:ByteArray}{j:Nat}(hj:j<11)(h:B (theWords.getD j [])=s):isWord s.data.toList=true:=by
 unfold isWord
 rw[List.any_eq_true]
 have hl:theWords.length=11:=rfl
 refine⟨theWords.getD j [], ?_, ?_⟩
 ·rw[List.getD_eq_getElem?_getD,List.getElem?_eq_getElem (by omega)];exact List.getElem_mem _
 ·rw[←h,B_list];simp
theorem word_no{s:ByteArray}(h:∀j<11,B (theWords.getD j [])≠s):isWord s.data.toList=false:=by
 unfold isWord
 rw[List.any_eq_false]
 intro x hx
 obtain⟨j,hj,rfl⟩:=List.getElem_of_mem hx
 have hl:theWords.length=11:=rfl
 intro he
 refine h j (by omega) ?_
 rw[List.getD_eq_getElem?_getD,List.getElem?_eq_getElem hj]
 have he':theWords[j]=s.data.toList:=by simpa using he
 show B theWords[j]=s
 rw[he',B_of]
def wordCells:Array Value:=(theWords.map fun l=>Value.string (B l)).toArray
theorem word_cell{w:World}{g:Nat}(h:Bk w g 9 wordCells)(j:Nat)(hj:j<11):w.cell? ⟨g,j,none⟩=some (.string (B (theWords.getD j []))):=by
 have hl:theWords.length=11:=rfl
 rw[h.cell]
 unfold wordCells
 rw[List.getElem?_toArray,List.getElem?_map,List.getElem?_eq_getElem (by omega),List.getD_eq_getElem?_getD,List.getElem?_eq_getElem (by omega)]
 rfl
theorem rword_any(s:ByteArray)(w0 w:World)(hr:Rel w0 w):
  Calls Tryz.prog 80 #[.string s] w fun e w'=>e= .returned (.bool (isWord s.data.toList))∧Rel w0 w':=by
 have HB:=yH (show Bk (w.alloc (.cells wordCells 9)) w.heap.size 9 wordCells from Bk.new w _ _)
 have HR:=yH (hr.alloc (.cells wordCells 9))
 go_enter Tryz.func80,Tryz.ntmps80
 go_wp2_with (fail)
 go_loopw [4] (fun i wr=>∃j:Nat,j≤11∧i=yI j∧Hid (∀k<j,B (theWords.getD k [])≠s)∧Hid (wr=w.alloc (.cells wordCells 9))) (fun i _=>11-(RowKit.intOf i).toNat)
 case atStart=>exact⟨0,by omega,rfl,yH (fun k hk=>absurd hk (by omega)),yH rfl⟩
 case round=>
  obtain⟨j,hj,rfl,HN,HW⟩:=hrel
  have hc:=HB.out
  rw[←HW.out] at hc
  by_cases hlt:j<11
  ·have c:=word_cell hc j hlt
   obtain⟨X,hX⟩:∃X,B (theWords.getD j [])=X:=⟨_,rfl⟩
   rw[hX] at c
   have HX:=yH hX
   clear hX
   by_cases he:X=s
   ·have HY:=yH (word_yes hlt (HX.out.trans he))
    have k1:=list_of.2 he
    clear he hc
    go_wp2_with (fail)
    go_ret
    exact⟨ret_bool HY.out.symm,by rw[HW.out];exact HR.out⟩
   ·have k1:=list_ne he
    have HN2:Hid (∀k<j+1,B (theWords.getD k [])≠s):=yH (fun k hk=>by
     rcases Nat.lt_or_ge k j with h|h
     ·exact HN.out k h
     ·obtain rfl:k=j:=by omega
      rw[HX.out];exact he)
    clear he hc
    go_wp2_with (fail)
    go_roundw
    case rel=>exact⟨j+1,by omega,by go_num,HN2,HW⟩
    case measure=>simp[RowKit.intOf];omega
  ·obtain rfl:j=11:=by omega
   have HY:=yH (word_no HN.out)
   clear hc
   go_wp2_with (fail)
   go_ret
   exact⟨ret_bool HY.out.symm,by rw[HW.out];exact HR.out⟩
theorem B_cons_size(c:UInt8)(t:List UInt8):(B (c::t)).size=t.length+1:=by rw[B_size];rfl
def LD(c:UInt8):Bool:=isL c||isD c
theorem name_eq(c:UInt8)(t:List UInt8):isName (c::t)=(decide (t.length+1≤12)&&isL c&& !isWord (c::t)&&(c::t).all LD):=by
 unfold isName LD;simp
theorem all_bad{l:List UInt8}(j:Nat)(h:j<l.length)(hx:LD l[j]=false):l.all LD=false:=by
 rw[List.all_eq_false]
 exact⟨l[j],List.getElem_mem h,by simp[hx]⟩
theorem all_more{l:List UInt8}(j:Nat)(h:j<l.length)(ha:(l.take j).all LD=true)(hx:LD l[j]=true):(l.take (j+1)).all LD=true:=by
 rw[List.take_succ_eq_append_getElem h,List.all_append,ha];simp[hx]
theorem rname_list(l:List UInt8)(hl:l.length≤9223372036854775807)(w0 w:World)(hr:Rel w0 w):
  Calls Tryz.prog 62 #[.string (B l)] w fun e w'=>e= .returned (.bool (isName l))∧Rel w0 w':=by
 cases l with
 |nil=>
  have HT:=B_toList []
  go_enter Tryz.func62,Tryz.ntmps62
  go_wp2_with (fail)
  go_ret
  exact⟨ret_bool rfl,hr⟩
 |cons c t=>
  have HT:=B_toList (c::t)
  have HB:=B_cons_size c t
  have H0:=B_zero c t
  by_cases h12:t.length+1≤12
  ·have z: ¬(12:Int)<(t.length:Int)+1:=by omega
   cases hc:isL c
   ·have HF:=yH (show isName (c::t)=false by rw[name_eq,hc];simp)
    clear hl h12
    go_enter Tryz.func62,Tryz.ntmps62
    go_wp2_with (go_at_call 57;(with_reducible refine(bool_at false (rletter_any c _) (yH hc)).mono ?_);rintro e w' ⟨rfl,rfl⟩)
    go_ret
    exact⟨ret_bool HF.out.symm,hr⟩
   ·cases hw:isWord (c::t)
    ·have HC:=yH hc
     have HWd:=yH (show isWord (B (c::t)).data.toList=false by rw[B_list];exact hw)
     have HW0:=yH hw
     have HR:=yH hr
     clear hw hc
     go_enter Tryz.func62,Tryz.ntmps62
     go_wp2_with (first
      |(go_at_call 57;(with_reducible refine(bool_at true (rletter_any c _) HC).mono ?_);rintro e w' ⟨rfl,rfl⟩)
      |(go_at_call 80;(with_reducible refine(bool_at false (rword_any _ _ _ hr.self) HWd).mono ?_);rintro e w1 ⟨rfl,h1⟩))
     go_loopw [3] (fun i wr=>∃j:Nat,j≤t.length+1∧i=yI j∧Hid (((c::t).take j).all LD=true)∧wr=w1) (fun i _=>t.length+1-(RowKit.intOf i).toNat)
     case atStart=>exact⟨0,by omega,rfl,yH rfl,rfl⟩
     case round=>
      obtain⟨j,hj,rfl,HA,rfl⟩:=hrel
      by_cases hlt:j<t.length+1
      ·have hlt':j<(c::t).length:=by simpa using hlt
       obtain⟨x,hx⟩:∃x,x=(c::t)[j]:=⟨_,rfl⟩
       have hg:∀h,(B (c::t))[j]'h=x:=fun h=>by rw[hx];rfl
       have HX:=yH hx
       clear hx
       cases hL:isL x<;>cases hD:isD x
       ·have HF:=yH (show isName (c::t)=false by rw[name_eq,all_bad j hlt' (by rw[←HX.out];simp[LD,hL,hD])];simp)
        have HL:=yH hL
        have HD:=yH hD
        clear hL hD
        go_wp2_with (first
             |(go_at_call 57;(with_reducible refine(bool_at false (rletter_any x _) HL).mono ?_);rintro e w' ⟨rfl,rfl⟩)
             |(go_at_call 58;(with_reducible refine(bool_at false (rdigit_any x _) HD).mono ?_);rintro e w' ⟨rfl,rfl⟩))
        go_ret
        exact⟨ret_bool HF.out.symm,HR.out.trans h1⟩
       all_goals
        have HM:=yH (all_more j hlt' HA.out (by rw[←HX.out];simp[LD,hL,hD]))
        have HL:=yH hL
        have HD:=yH hD
        clear hL hD
        go_wp2_with (first
             |(go_at_call 57;(with_reducible refine(bool_at _ (rletter_any x _) HL).mono ?_);rintro e w' ⟨rfl,rfl⟩)
             |(go_at_call 58;(with_reducible refine(bool_at _ (rdigit_any x _) HD).mono ?_);rintro e w' ⟨rfl,rfl⟩))
        go_roundw
        case rel=>exact⟨j+1,by omega,by go_num,HM,trivial⟩
        case measure=>simp[RowKit.intOf];omega
      ·obtain rfl:j=t.length+1:=by omega
       have HY:=yH (show isName (c::t)=true by
        have ha:=HA.out
        rw[List.take_of_length_le (by simp)] at ha
        rw[name_eq,ha,HC.out,HW0.out,decide_eq_true h12];rfl)
       go_wp2_with (fail)
       go_ret
       exact⟨ret_bool HY.out.symm,HR.out.trans h1⟩
    ·have HC:=yH hc
     have HWd:=yH (show isWord (B (c::t)).data.toList=true by rw[B_list];exact hw)
     have HF:=yH (show isName (c::t)=false by rw[name_eq,hw];simp)
     clear hw hc
     go_enter Tryz.func62,Tryz.ntmps62
     go_wp2_with (first
      |(go_at_call 57;(with_reducible refine(bool_at true (rletter_any c _) HC).mono ?_);rintro e w' ⟨rfl,rfl⟩)
      |(go_at_call 80;(with_reducible refine(bool_at true (rword_any _ _ _ hr.self) HWd).mono ?_);rintro e w1 ⟨rfl,h1⟩))
     go_ret
     exact⟨ret_bool HF.out.symm,hr.trans h1⟩
  ·have HF:=yH (show isName (c::t)=false by rw[name_eq,decide_eq_false h12];simp)
   have z:(12:Int)<(t.length:Int)+1:=by omega
   clear h12
   go_enter Tryz.func62,Tryz.ntmps62
   go_wp2_with (fail)
   go_ret
   exact⟨ret_bool HF.out.symm,hr⟩
theorem rname_any(s:ByteArray)(hs:s.size≤9223372036854775807)(w0 w:World)(hr:Rel w0 w):
  Calls Tryz.prog 62 #[.string s] w fun e w'=>e= .returned (.bool (isName s.data.toList))∧Rel w0 w':=by
 have:=rname_list s.data.toList (by simpa using hs) w0 w hr
 rwa [B_of] at this
def TokPost(l:List UInt8)(p:Int)(e:Ending):Prop:=
 (∃k n,tokOf l=some (k,n)∧e= .returned (.tuple #[TK (k,l,n,p),.bool true]))∨(tokOf l=none∧∃t,e= .returned (.tuple #[TK t,.bool false]))
theorem tok_word{l:List UInt8}(h:isWord l=true∨isName l=true):tokOf l=some (1,0):=by
 unfold tokOf;rw[if_pos];rcases h with h|h<;>simp[h]
theorem tok_count{l:List UInt8}(h:isWord l=false)(h':isName l=false)(hc:0≤cnt l 100000):tokOf l=some (2,cnt l 100000):=by
 unfold tokOf;rw[if_neg (by simp[h,h']),if_pos hc]
theorem tok_money{l:List UInt8}(h:isWord l=false)(h':isName l=false)(hc: ¬0≤cnt l 100000):tokOf l=(prs l).map fun a=>(3,a):=by
 unfold tokOf;rw[if_neg (by simp[h,h']),if_neg hc];cases prs l<;>rfl
theorem rtoken_any(l:List UInt8)(p:Int)(hl:l.length≤9223372036854775807)(w0 w:World)(hr:Rel w0 w):
  Calls Tryz.prog 59 #[.string (B l),yI p] w fun e w'=>TokPost l p e∧Rel w0 w':=by
 have HBL:(B l).data.toList=l:=B_list l
 have hz:(B l).size≤9223372036854775807:=by rw[B_size];exact hl
 have z:=hr.size
 have hr1:=hr.alloc (.cells #[yI 0,.string ⟨#[]⟩,yI 0,yI 0] 78)
 have HB:=yH (Bk.new w 78 #[yI 0,.string ⟨#[]⟩,yI 0,yI 0])
 have HR:=yH hr1
 cases hw:isWord l
 ·cases hn:isName l
  ·obtain⟨n,hN⟩:∃n,cnt l 100000=n:=⟨_,rfl⟩
   have HWd:=yH (show isWord (B l).data.toList=false by rw[HBL];exact hw)
   have HNd:=yH (show isName (B l).data.toList=false by rw[HBL];exact hn)
   have HCd:=yH (show cnt (B l).data.toList 100000=n by rw[HBL];exact hN)
   by_cases hc:0≤n
   ·have HF:=yH (tok_count hw hn (by rw[hN];exact hc))
    rw[hN] at HF
    clear hw hn hN HBL hr1
    go_enter Tryz.func59,Tryz.ntmps59
    go_wp2_with (first
     |(go_at_call 80;(with_reducible refine(bool_at false (rword_any _ _ _ HR.out.self) HWd).mono ?_);rintro e w1 ⟨rfl,h1⟩)
     |(go_at_call 62;(with_reducible refine(bool_at false (rname_any _ hz _ _ h1.self) HNd).mono ?_);rintro e w2 ⟨rfl,h2⟩)
     |(go_at_call 81;(with_reducible refine(int_at n (rcount_any _ _ hz _ _ h2.self) HCd).mono ?_);rintro e w3 ⟨rfl,h3⟩;obtain⟨⟨c0,c1,c2,c3⟩,f0,f1,f2,f3⟩:=(((HB.out.rel h1).rel h2).rel h3).four))
    obtain⟨⟨r0,r1,r2,r3⟩,_⟩:=((((HB.out.rel h1).rel h2).rel h3).put4 (yI 2) (.string (B l)) (yI n) (yI p)).four
    exact bodyPost_ret (v:= .tuple #[TK (2,l,n,p),.bool true]) (by simp[results,Tryz.results59,go_sem,r0,r1,r2,r3]) rfl ⟨.inl ⟨2,n,HF.out,rfl⟩,(((HR.out.trans h1).trans h2).trans h3).put4 z _ _ _ _⟩
   ·have HF:=yH (tok_money hw hn (by rw[hN];exact hc))
    obtain⟨m,hm⟩:∃m,prs1 l=m:=⟨_,rfl⟩
    obtain⟨e,he⟩:∃m,prs2 l=m:=⟨_,rfl⟩
    have HM1:=yH (show prs1 (B l).data.toList=m by rw[HBL];exact hm)
    have HM2:=yH (show prs2 (B l).data.toList=e by rw[HBL];exact he)
    have HP:=yH (show ∀o:Option Int,o=prs l→(o=none∧e≠0)∨(o=some m∧e=0) from fun o ho=>by
     subst ho
     unfold prs1 at hm
     unfold prs2 at he
     cases h:prs l with
     |none=>rw[h] at he;exact .inl ⟨rfl,by simp at he;omega⟩
     |some a=>rw[h] at he hm;exact .inr ⟨by simp at hm;rw[hm],by simp at he;omega⟩)
    clear hw hn hN HBL hr1 hm he
    go_enter Tryz.func59,Tryz.ntmps59
    go_wp2_with (first
     |(go_at_call 80;(with_reducible refine(bool_at false (rword_any _ _ _ HR.out.self) HWd).mono ?_);rintro e w1 ⟨rfl,h1⟩)
     |(go_at_call 62;(with_reducible refine(bool_at false (rname_any _ hz _ _ h1.self) HNd).mono ?_);rintro e w2 ⟨rfl,h2⟩)
     |(go_at_call 81;(with_reducible refine(int_at n (rcount_any _ _ hz _ _ h2.self) HCd).mono ?_);rintro e w3 ⟨rfl,h3⟩)
     |(go_at_call 82;(with_reducible refine(two_at m e (rparse_any _ hz _ _ h3.self) HM1 HM2).mono ?_);rintro e w4 ⟨rfl,h4⟩;obtain⟨⟨c0,c1,c2,c3⟩,f0,f1,f2,f3⟩:=((((HB.out.rel h1).rel h2).rel h3).rel h4).four))
    obtain⟨⟨r0,r1,r2,r3⟩,_⟩:=(((((HB.out.rel h1).rel h2).rel h3).rel h4).put4 (yI 3) (.string (B l)) (yI m) (yI p)).four
    refine bodyPost_ret (v:= .tuple #[TK (3,l,m,p),.bool (e==0)]) (by simp[results,Tryz.results59,go_sem,r0,r1,r2,r3]) rfl ⟨?_,((((HR.out.trans h1).trans h2).trans h3).trans h4).put4 z _ _ _ _⟩
    rcases HP.out _ rfl with ⟨q1,q2⟩|⟨q1,q2⟩
    ·exact .inr ⟨by rw[HF.out,q1];rfl,_,by rw[show(e==0)=false by simpa using q2]⟩
    ·exact .inl ⟨3,m,by rw[HF.out,q1];rfl,by rw[q2];rfl⟩
  ·have HF:=yH (tok_word (.inr hn))
   have HWd:=yH (show isWord (B l).data.toList=false by rw[HBL];exact hw)
   have HNd:=yH (show isName (B l).data.toList=true by rw[HBL];exact hn)
   clear hw hn HBL hr1
   go_enter Tryz.func59,Tryz.ntmps59
   go_wp2_with (first
    |(go_at_call 80;(with_reducible refine(bool_at false (rword_any _ _ _ HR.out.self) HWd).mono ?_);rintro e w1 ⟨rfl,h1⟩)
    |(go_at_call 62;(with_reducible refine(bool_at true (rname_any _ hz _ _ h1.self) HNd).mono ?_);rintro e w2 ⟨rfl,h2⟩;obtain⟨⟨c0,c1,c2,c3⟩,f0,f1,f2,f3⟩:=((HB.out.rel h1).rel h2).four))
   obtain⟨⟨r0,r1,r2,r3⟩,_⟩:=(((HB.out.rel h1).rel h2).put4 (yI 1) (.string (B l)) (yI 0) (yI p)).four
   exact bodyPost_ret (v:= .tuple #[TK (1,l,0,p),.bool true]) (by simp[results,Tryz.results59,go_sem,r0,r1,r2,r3]) rfl ⟨.inl ⟨1,0,HF.out,rfl⟩,((HR.out.trans h1).trans h2).put4 z _ _ _ _⟩
 ·have HF:=yH (tok_word (.inl hw))
  have HWd:=yH (show isWord (B l).data.toList=true by rw[HBL];exact hw)
  clear hw HBL hr1
  go_enter Tryz.func59,Tryz.ntmps59
  go_wp2_with (go_at_call 80;(with_reducible refine(bool_at true (rword_any _ _ _ HR.out.self) HWd).mono ?_);rintro e w1 ⟨rfl,h1⟩;obtain⟨⟨c0,c1,c2,c3⟩,f0,f1,f2,f3⟩:=(HB.out.rel h1).four)
  obtain⟨⟨r0,r1,r2,r3⟩,_⟩:=((HB.out.rel h1).put4 (yI 1) (.string (B l)) (yI 0) (yI p)).four
  exact bodyPost_ret (v:= .tuple #[TK (1,l,0,p),.bool true]) (by simp[results,Tryz.results59,go_sem,r0,r1,r2,r3]) rfl ⟨.inl ⟨1,0,HF.out,rfl⟩,(HR.out.trans h1).put4 z _ _ _ _⟩
theorem rcond_any(k:Int)(w:World):Calls Tryz.prog 41 #[yI k] w fun e w'=>e= .returned (.bool (isCond k))∧w=w':=by
 cases h1:(k==11)<;>cases h2:(k==12)
 all_goals
  have HF:=yH (show isCond k=(_||_) from rfl)
  rw[h1,h2] at HF
  go_enter Tryz.func41,Tryz.ntmps41
  go_wp2_with (fail)
  go_ret
  exact⟨ret_bool HF.out.symm,rfl⟩
theorem rmost_any(k:Int)(w:World):Calls Tryz.prog 63 #[yI k] w fun e w'=>e= .returned (yI (mostN k))∧w=w':=by
 rcases kinds k with h|⟨k1,k2,k3,k4,k5,k6,k7,k8,k9,k10,k11,k12,_,ha,_⟩
 ·rcases h with rfl|rfl|rfl|rfl|rfl|rfl|rfl|rfl|rfl|rfl|rfl|rfl
  all_goals
   go_enter Tryz.func63,Tryz.ntmps63
   go_wp2_with (fail)
   go_ret
   exact⟨rfl,rfl⟩
 ·have HA:=yH ha
  clear ha
  go_enter Tryz.func63,Tryz.ntmps63
  go_wp2_with (fail)
  go_ret
  exact⟨ret_int HA.out.symm,rfl⟩
theorem sizes_take(l:List Ex)(j:Nat)(h:j<l.length):sizes (l.take (j+1))=sizes (l.take j)+size l[j]:=by
 rw[List.take_succ_eq_append_getElem h,sizes_append,sizes_cons,sizes_nil];omega
theorem ExAt.arg{S:Nat→Prop}{w wr:World}{A:Option Addr}{es:List El}{l:List Ex}(hrow:RowE S w A es)(hsub:∀i (h:i<es.length) (h':i<l.length),ExAt S w es[i] l[i])(hl:es.length=l.length)(hr:Rel w wr)(j:Nat)(hj:j<l.length):
  ∃(g off:Nat)(k n:Int)(nm:List UInt8)(A':Option Addr)(m c:Nat),A=some ⟨g,off,none⟩∧wr.cell? ⟨g,off+j*4,none⟩=some (yI k)∧wr.cell? ⟨g,off+j*4+1,none⟩=some (yI n)∧wr.cell? ⟨g,off+j*4+2,none⟩=some (.string (B nm))∧wr.cell? ⟨g,off+j*4+3,none⟩=some (.slice A' m c)∧ExAt S wr (k,n,nm,A',m,c) l[j]:=by
 obtain⟨g,off,e,hl2,_,h0,h1,h2,h3⟩:=hrow j (by omega)
 have hs:=(hsub j (by omega) hj).rel hr
 generalize es[j]=e0 at*
 obtain⟨k,n,nm,A',m,c⟩:=e0
 have hk:∀i,wr.cell? ⟨g,i,none⟩=w.cell? ⟨g,i,none⟩:=fun i=>hr.2.cell (p:=⟨g,i,none⟩) hl2
 exact⟨g,off,k,n,nm,A',m,c,e,by rw[hk];exact h0,by rw[hk];exact h1,by rw[hk];exact h2,by rw[hk];exact h3,hs⟩
theorem rsize_any:∀(x:Ex)(S:Nat→Prop)(e:El)(w0 w:World),Rel w0 w→ExAt S w e x→size x≤1000000→
  Calls Tryz.prog 42 #[EV e] w fun r w'=>r= .returned (yI (size x:Int))∧Rel w0 w':=ex_ind fun k n nm l ih S e w0 w hr h hz=>by
 obtain⟨A,c,es,rfl,hk,hn,hm,hl,hrow,hsub⟩:=h.open
 have HRow:=yH hrow
 have HSub:=yH hsub
 have HIH:=yH (fun j hj=>ih _ (List.getElem_mem (l:=l) (n:=j) hj))
 have HR:=yH hr
 rw[size_mk] at hz
 have HZ:=yH (size_mk k n nm l)
 have hll:l.length≤1000000:=by
  have:∀l:List Ex,l.length≤sizes l:=fun l=>by
   induction l with
   |nil=>simp
   |cons x t ih=>rw[sizes_cons,List.length_cons];have:=size_pos x;omega
  have:=this l;omega
 have HB:=yH (Bk.new w 52 #[yI k,yI n,.string (B nm),.slice A l.length c])
 have HA:=yH (hr.self.alloc (.cells #[yI k,yI n,.string (B nm),.slice A l.length c] 52))
 obtain⟨W,hW⟩:∃W,w.alloc (.cells #[yI k,yI n,.string (B nm),.slice A l.length c] 52)=W:=⟨_,rfl⟩
 rw[hW] at HB HA
 have HW:=yH hW
 clear hrow hsub ih h hW
 go_enter Tryz.func42,Tryz.ntmps42
 go_wp2_with (fail)
 rw[HW.out]
 go_loopw [3,4] (fun n i wr=>∃j:Nat,j≤l.length∧i=yI (j:Int)∧Hid (n=yI ((1+sizes (l.take j):Nat):Int))∧Rel W wr) (fun _ i _=>l.length-(RowKit.intOf i).toNat)
 case atStart=>exact⟨0,by omega,rfl,yH (by simp[sizes_nil]),(HR.out.trans HA.out).self⟩
 case round=>
  obtain⟨j,hj,rfl,HN,hRw⟩:=hrel
  have hb:=HB.out.rel hRw
  obtain⟨⟨c0,c1,c2,c3⟩,_⟩:=hb.four
  obtain⟨q,hq⟩:∃q:Nat,1+sizes (l.take j)=q:=⟨_,rfl⟩
  have hn':=HN.out
  rw[hq] at hn'
  subst hn'
  have HQ:=yH hq
  have HRw:=yH hRw
  clear hb hq
  by_cases hlt:j<l.length
  ·obtain⟨g,off,k',n',nm',A',m',c',hA,a0,a1,a2,a3,ha⟩:=ExAt.arg HRow.out HSub.out hl (HA.out.trans hRw) j hlt
   subst hA
   have hsz:size l[j]+q≤1000000:=by
    have e1:=sizes_take l j hlt
    have e2:sizes (l.take (j+1))≤sizes l:=by
     have:sizes l=sizes (l.take (j+1))+sizes (l.drop (j+1)):=by rw[←sizes_append,List.take_append_drop]
     omega
    have:=HQ.out;omega
   obtain⟨sj,hsj⟩:∃s,size l[j]=s:=⟨_,rfl⟩
   have HNx:=yH (show 1+sizes (l.take (j+1))=q+sj by rw[sizes_take l j hlt,hsj];have:=HQ.out;omega)
   rw[hsj] at hsz
   have HC:=yH (HIH.out j hlt S (k',n',nm',A',m',c') wr wr ((HR.out.trans HA.out).trans hRw).self ha (by rw[hsj];omega))
   rw[hsj] at HC
   clear ha hsj
   go_wp2_with (go_at_call 42;(with_reducible refine HC.out.mono ?_);rintro e w2 ⟨rfl,h2⟩)
   go_roundw
   case rel=>exact⟨j+1,by omega,by go_num,yH (by rw[HNx.out];go_num),HRw.out.trans h2⟩
   case measure=>simp[RowKit.intOf];omega
  ·obtain rfl:j=l.length:=by omega
   have HF:=yH (show size (.mk k n nm l)=q by have:=HQ.out;rw[List.take_length] at this;rw[size_mk,this])
   go_wp2_with (fail)
   go_ret
   exact⟨ret_int (by rw[HF.out]),(HR.out.trans HA.out).trans HRw.out⟩
theorem wordK_other{k:Int}(h:(k==1)=false∧(k==2)=false∧(k==3)=false∧(k==5)=false∧(k==6)=false∧(k==7)=false∧(k==8)=false∧(k==9)=false∧(k==10)=false∧(k==11)=false∧(k==12)=false):wordK k=[]:=by
 simp only[beq_eq_false_iff_ne] at h
 unfold wordK
 obtain⟨h1,h2,h3,h5,h6,h7,h8,h9,h10,h11,h12⟩:=h
 rw[if_neg h1,if_neg h2,if_neg h3,if_neg h5,if_neg h6,if_neg h7,if_neg h8,if_neg h9,if_neg h10,if_neg h11,if_neg h12]
def wordCells7:Array Value:= #[.string ⟨#[]⟩,.string ⟨#[108,111,119,101,115,116]⟩,.string ⟨#[115,101,99,111,110,100]⟩,.string ⟨#[102,114,111,109]⟩,.string ⟨#[]⟩,.string ⟨#[108,101,115,115]⟩,.string ⟨#[99,117,116]⟩,.string ⟨#[109,105,110]⟩,.string ⟨#[109,97,120]⟩,.string ⟨#[101,108,115,101]⟩,.string ⟨#[105,102]⟩,.string ⟨#[109,111,114,101]⟩,.string ⟨#[97,98,111,118,101]⟩]
theorem rword7_any(k:Int)(hk:i64 k)(w0 w:World)(hr:Rel w0 w):
  Calls Tryz.prog 49 #[yI k] w fun e w'=>e= .returned (.string (B (wordK k)))∧Rel w0 w':=by
 have k0:=hk.1
 have k9:=hk.2
 rcases kinds k with h|⟨k1,k2,k3,k4,k5,k6,k7,k8,k9,k10,k11,k12,_⟩
 ·rcases h with rfl|rfl|rfl|rfl|rfl|rfl|rfl|rfl|rfl|rfl|rfl|rfl
  all_goals
   have HR:=yH (hr.alloc (.cells wordCells7 9))
   go_enter Tryz.func49,Tryz.ntmps49
   go_wp2_with (fail)
   go_ret
   exact⟨rfl,HR.out⟩
 ·have HE:=yH (wordK_other ⟨k1,k2,k3,k5,k6,k7,k8,k9,k10,k11,k12⟩)
  have HR:=yH (hr.alloc (.cells wordCells7 9))
  have hw:k<0∨(¬k<0∧13≤k)∨k=0:=by simp only[beq_eq_false_iff_ne] at*;omega
  clear k1 k2 k3 k4 k5 k6 k7 k8 k9 k10 k11 k12
  rcases hw with h|⟨h,h2⟩|rfl
  all_goals
   go_enter Tryz.func49,Tryz.ntmps49
   go_wp2_with (fail)
   go_ret
   exact⟨ret_str (by rw[HE.out];rfl),HR.out⟩
end Go.Proofs.YtfekhbeaphpelaaGreatDoor
