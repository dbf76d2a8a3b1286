/- The document's own readings of numbers a. -/

import Derived.Test.YtjhjdiaomnpkmaaGreatDoorZ32
set_option maxRecDepth 100000
set_option maxHeartbeats 8000000
set_option linter.unusedVariables false
set_option linter.unusedSimpArgs false
namespace Go.Proofs.YtjhjdiaomnpkmaaGreatDoor
open Go.RowKit Go.Lib
theorem take_snoc(l:List UInt8)(k:Nat)(h:k<l.length):l.take (k+1)=l.take k++[l[k]]:=by
 rw[List.take_succ_eq_append_getElem h]
theorem val_snoc(t:List UInt8)(c:UInt8):val (t++[c]) 0=val t 0*10+((c.toNat:Int)-48):=by rw[val_append];rfl
theorem allD_snoc(t:List UInt8)(c:UInt8):allD (t++[c])=(allD t&&isD c):=by rw[allD_append];simp[allD]
theorem allD_take{l:List UInt8}(k:Nat)(h:allD (l.take k)=false):allD l=false:=by
 cases e:allD l
 ·rfl
 ·unfold allD at e h
  rw[List.all_eq_true] at e
  rw[←Bool.not_eq_true,List.all_eq_true] at h
  exact absurd (fun x hx=>e x (List.mem_of_mem_take hx)) h
theorem rcount_list(l:List UInt8)(most:Int)(hl:l.length≤9223372036854775807)(w0 w:World)(hr:Rel w0 w):
  Calls Tryz.prog 81 #[.string (B l),.int .i64 most] w fun e w'=>e= .returned (.int .i64 (cnt l most))∧Rel w0 w':=by
 cases l with
 |nil=>
  have HT:=B_toList []
  go_enter Tryz.func81,Tryz.ntmps81
  go_wp2_with (fail)
  go_ret
  exact⟨ret_int (cnt_no (.inl rfl)).symm,hr⟩
 |cons c t=>
  have HT:=B_toList (c::t)
  have HB:=B_size (c::t)
  have H0:=B_zero c t
  by_cases h13:13<t.length+1
  ·have HS:=yH (cnt_long (l:=c::t) (most:=most) (by simpa using h13))
   have h13':(13:Int)<(t.length:Int)+1:=by omega
   go_enter Tryz.func81,Tryz.ntmps81
   go_wp2_with (fail)
   go_ret
   exact⟨ret_int HS.out.symm,hr⟩
  ·by_cases h48:1<t.length+1∧c.toNat=48
   ·have HS:=yH (cnt_no (l:=c::t) (most:=most) (.inr ⟨by simpa using h48.1,by simp;exact UInt8.toNat_inj.1 h48.2⟩))
    have e1:(1:Int)<(t.length:Int)+1:=by omega
    have e2:((c.toNat:Int)==48)=true:=by simp;omega
    have e3:(t.length:Int)+1≤13:=by omega
    clear h48 h13
    go_enter Tryz.func81,Tryz.ntmps81
    go_wp2_with (fail)
    go_ret
    exact⟨ret_int HS.out.symm,hr⟩
   ·have e3:(t.length:Int)+1≤13:=by omega
    have HH:(c::t).length≤1∨(c::t).head?≠some 48:=by
     by_cases h:t.length=0
     ·left;simp[h]
     ·right;intro e;simp at e;exact h48 ⟨by omega,by rw[e];rfl⟩
    have e2:(1:Int)<(t.length:Int)+1→((c.toNat:Int)==48)=false:=fun h=>by simp;omega
    have HH:=yH HH
    go_enter Tryz.func81,Tryz.ntmps81
    by_cases e1:(1:Int)<(t.length:Int)+1
    all_goals
     try have e2':=e2 e1
     clear e2 h48
     clear hl HB h13
     have HB:=B_size (c::t)
     go_wp2_with (fail)
     go_loop [5,6] (fun n i=>∃k:Nat,k≤t.length+1∧i= .int .i64 (k:Int)∧n= .int .i64 (val ((c::t).take k) 0)∧Hid (allD ((c::t).take k)=true)) (fun _ i=>t.length+1-(RowKit.intOf i).toNat)
     case atStart=>exact⟨0,Nat.zero_le _,rfl,rfl,yH rfl⟩
     case round=>
      obtain⟨k,hk,rfl,rfl,HA⟩:=hrel
      have v0:0≤val ((c::t).take k) 0:=val_ge HA.out (by omega)
      have v1:val ((c::t).take k) 0≤10000000000000:=by
       have h1:=val_lt HA.out (n:=0) (by omega)
       have h2:(10:Int)^((c::t).take k).length≤10^13:=by
        have:10^((c::t).take k).length≤10^13:=Nat.pow_le_pow_right (by omega) (by rw[List.length_take];simp;omega)
        exact_mod_cast this
       have e13:(10:Int)^13=10000000000000:=by decide
       rw[e13] at h2
       rw[show(0:Int)+1=1 from rfl,Int.one_mul] at h1
       exact Int.le_trans (Int.le_of_lt h1) h2
      by_cases hlt:k<t.length+1
      ·have hlt':k<(c::t).length:=by simpa using hlt
       obtain⟨x,hx⟩:∃x,x=(c::t)[k]:=⟨_,rfl⟩
       have hg:∀h,(B (c::t))[k]'h=x:=fun h=>by rw[hx];rfl
       have HT1:=yH (take_snoc (c::t) k hlt')
       rw[←hx] at HT1
       clear hx
       by_cases g:48≤x.toNat∧x.toNat≤57
       ·obtain⟨g1,g2⟩:=g
        have HV:=yH (show val ((c::t).take (k+1)) 0=val ((c::t).take k) 0*10+((x.toNat:Int)-48) by rw[HT1.out,val_snoc])
        have HD:=yH (show allD ((c::t).take (k+1))=true by rw[HT1.out,allD_snoc,HA.out,isD_iff.2 ⟨g1,g2⟩];rfl)
        go_wp2_with (fail)
        go_round
        case rel=>exact⟨k+1,by omega,by go_num,by rw[HV.out];go_num,HD⟩
        case measure=>simp[RowKit.intOf];omega
       ·have HN:=yH (cnt_not (l:=c::t) (most:=most) (allD_take (k+1) (by rw[HT1.out,allD_snoc,HA.out];simp[isD];omega)))
        by_cases g1:x.toNat<48
        ·clear g
         go_wp2_with (fail)
         go_ret
         exact⟨ret_int HN.out.symm,hr⟩
        ·have g2:57<x.toNat:=by omega
         clear g
         go_wp2_with (fail)
         go_ret
         exact⟨ret_int HN.out.symm,hr⟩
      ·have hk':(c::t).take k=c::t:=List.take_of_length_le (by simp;omega)
       rw[hk'] at HA v0 v1⊢
       have HC:=yH (cnt_yes (most:=most) HA.out rfl HH.out)
       clear hk'
       by_cases m1:most<val (c::t) 0
       ·go_wp2_with (fail)
        go_ret
        exact⟨ret_int (by rw[HC.out,if_pos (.inl m1)]),hr⟩
       ·by_cases m2:1000000000000<val (c::t) 0
        ·go_wp2_with (fail)
         go_ret
         exact⟨ret_int (by rw[HC.out,if_pos (.inr m2)]),hr⟩
        ·go_wp2_with (fail)
         go_ret
         exact⟨ret_int (by rw[HC.out,if_neg (by omega)]),hr⟩
theorem rcount_any(s:ByteArray)(most:Int)(hl:s.size≤9223372036854775807)(w0 w:World)(hr:Rel w0 w):
  Calls Tryz.prog 81 #[.string s,.int .i64 most] w fun e w'=>e= .returned (.int .i64 (cnt s.data.toList most))∧Rel w0 w':=by
 have:=rcount_list s.data.toList most (by simpa using hl) w0 w hr
 rwa [B_of] at this
theorem B_extract(l:List UInt8)(j:Nat):(B l).extract 0 j=B (l.take j):=by
 apply ByteArray.ext
 simp[B]
theorem B_tail(c:UInt8)(r:List UInt8):(B (c::r)).extract 1 (r.length+1)=B r:=by
 apply ByteArray.ext
 simp[B]
theorem rtext_at(x A:Int)(h:x=A)(h0: -9223372036854775808≤x)(h1:x≤9223372036854775807)(w0 w:World)(hr:Rel w0 w):
  Calls Tryz.prog 47 #[.int .i64 x] w fun e w'=>e= .returned (.string (tx A))∧Rel w0 w':=by subst h;exact rtext_any x h0 h1 w0 w hr
theorem tx_toList(a:Int):(tx a).toList=txt a:=B_toList _
theorem none1{l:List UInt8}(h:prs l=none):0=prs1 l:=by unfold prs1;rw[h];rfl
theorem none2{l:List UInt8}(h:prs l=none):20=prs2 l:=by unfold prs2;rw[h];rfl
theorem some1{l:List UInt8}{a:Int}(h:prs l=some a):a=prs1 l:=by unfold prs1;rw[h];rfl
theorem some2{l:List UInt8}{a:Int}(h:prs l=some a):0=prs2 l:=by unfold prs2;rw[h];rfl
theorem parts_at{t:List UInt8}{m:Nat}(h:t.length=m+4)(hd:t[m+1]?=some 46):∃c d,t=t.take (m+1)++[46,c,d]∧t[m+2]?=some c∧t[m+3]?=some d:=by
 have:=ref_parts (t:=t) (by omega) (by rw[h];exact hd)
 rw[h] at this
 exact this
theorem B_at{t:List UInt8}{k:Nat}{c:UInt8}(h:t[k]?=some c)(hh:k<(B t).size):(B t)[k]'hh=c:=by
 have e:(B t)[k]'hh=t[k]'(by rw[B_size] at hh;exact hh):=rfl
 rw[e]
 rw[List.getElem?_eq_getElem (by rw[B_size] at hh;exact hh)] at h
 exact Option.some.inj h
theorem rparse_list(l:List UInt8)(hl:l.length≤9223372036854775807)(w0 w:World)(hr:Rel w0 w):
  Calls Tryz.prog 82 #[.string (B l)] w fun e w'=>Two e (prs1 l) (prs2 l)∧Rel w0 w':=by
 cases l with
 |nil=>
  have HT:=B_toList []
  go_enter Tryz.func82,Tryz.ntmps82
  go_wp2_with (fail)
  go_ret2
  exact⟨ret_two rfl rfl,hr⟩
 |cons c r=>
  have HT:=B_toList (c::r)
  have H0:=B_zero c r
  by_cases h45:c.toNat=45
  ·have h45':((c.toNat:Int)==45)=true:=by simp;omega
   have hc:c=45:=UInt8.toNat_inj.1 h45
   have eb:body (c::r)=r:=by subst hc;rfl
   have en:(if negL (c::r) then (-1:Int) else 1)= -1:=by subst hc;rfl
   have HX:=B_tail c r
   have hlr:r.length≤9223372036854775806:=by simpa using hl
   clear hc h45
   have HB:=B_size (c::r)
   by_cases h4:r.length<4
   ·have HR:=yH (ref_short (l:=c::r) (by rw[eb];exact h4))
    have HBt:=B_size r
    have q:((r).length:Int)<4:=by omega
    have q':(r.length:Int)<4:=by omega
    clear eb en h4
    go_enter Tryz.func82,Tryz.ntmps82
    go_wp2_with (fail)
    go_ret2
    exact⟨ret_two (none1 HR.out) (none2 HR.out),hr⟩
   ·obtain⟨m,hm⟩:∃m,r.length=m+4:=⟨r.length-4,by omega⟩
    have HBt:(B r).size=m+4:=by rw[B_size];exact hm
    have hmb:(m:Int)≤9223372036854775803:=by omega
    obtain⟨d,hd⟩:∃d,r[m+1]?=some d:=⟨_,List.getElem?_eq_getElem (by omega)⟩
    have HD:∀h,(B r)[m+1]'h=d:=fun h=>B_at hd h
    by_cases h46:d.toNat=46
    ·have hd':d=46:=UInt8.toNat_inj.1 h46
     have h46':((d.toNat:Int) !=46)=false:=by simp;omega
     obtain⟨e1,e2,hp,he1,he2⟩:=parts_at hm (by rw[hd,hd'])
     have HE1:∀h,(B r)[m+2]'h=e1:=fun h=>B_at he1 h
     have HE2:∀h,(B r)[m+3]'h=e2:=fun h=>B_at he2 h
     have HXT:=B_extract r (m+1)
     obtain⟨x,hx⟩:∃x,r.take (m+1)=x:=⟨_,rfl⟩
     rw[hx] at hp HXT
     have zx:(B x).size≤9223372036854775807:=by rw[B_size,←hx,List.length_take];omega
     obtain⟨v,hv⟩:∃v,cnt x 10000000000=v:=⟨_,rfl⟩
     have HW:=yH (show cnt (B x).data.toList 10000000000=v by rw[B_list];exact hv)
     have vb:=cnt_bd x 10000000000
     rw[hv] at vb
     have v1: -1≤v:=by omega
     have v2:v≤10000000000:=by omega
     obtain⟨A,hA⟩:∃A,A= -1*(v*100+two e1 e2):=⟨_,rfl⟩
     have HA:=yH (show A= -1*(v*100+(((e1.toNat:Int)-48)*10+((e2.toNat:Int)-48))) from hA)
     have HNO:=yH (fun h=>ref_no (eb.trans hp) (l:=c::r) h)
     have HYES:=yH (fun a b d=>ref_yes (eb.trans hp) (l:=c::r) a b d)
     rw[hv,en,←hA] at HYES
     rw[hv] at HNO
     have HTA:=tx_toList A
     have HB2:(B (c::r)).size=m+5:=by rw[HB];simp;omega
     rw[show r.length+1=m+5 by omega] at HX
     clear HB
     clear eb en h4 hm hd hp he1 he2 hx hv vb hA hd' h46
     go_enter Tryz.func82,Tryz.ntmps82
     go_wp2_with ((go_at_call 81;(with_reducible refine(int_at v (rcount_any _ _ (by omega) _ _ (by assumption)) HW).mono ?_);rintro e w' ⟨rfl,hr'⟩))
     go_loop [7,8] (fun t i=>(i= .int .i64 ((m:Int)+2)∧t= .int .i64 0)∨(i= .int .i64 ((m:Int)+3)∧t= .int .i64 ((e1.toNat:Int)-48)∧48≤e1.toNat∧e1.toNat≤57)∨(i= .int .i64 ((m:Int)+4)∧t= .int .i64 (10*((e1.toNat:Int)-48)+((e2.toNat:Int)-48))∧48≤e1.toNat∧e1.toNat≤57∧48≤e2.toNat∧e2.toNat≤57)) (fun _ i=>m+4-(RowKit.intOf i).toNat)
     case atStart=>exact .inl ⟨by go_num,rfl⟩
     case round=>
      rcases hrel with ⟨rfl,rfl⟩|⟨rfl,rfl,g1,g2⟩|⟨rfl,rfl,g1,g2,g3,g4⟩
      ·by_cases g1:e1.toNat<48
       ·have HN:=yH (HNO.out (.inr (.inl (by simp[isD];omega))))
        go_wp2_with (fail)
        go_ret2
        exact⟨ret_two (none1 HN.out) (none2 HN.out),by assumption⟩
       ·by_cases g2:57<e1.toNat
        ·have HN:=yH (HNO.out (.inr (.inl (by simp[isD];omega))))
         go_wp2_with (fail)
         go_ret2
         exact⟨ret_two (none1 HN.out) (none2 HN.out),by assumption⟩
        ·go_wp2_with (fail)
         go_round
         case rel=>exact .inr (.inl ⟨by go_num,by go_num,by omega,by omega⟩)
         case measure=>simp[RowKit.intOf];omega
      ·by_cases g3:e2.toNat<48
       ·have HN:=yH (HNO.out (.inr (.inr (by simp[isD];omega))))
        go_wp2_with (fail)
        go_ret2
        exact⟨ret_two (none1 HN.out) (none2 HN.out),by assumption⟩
       ·by_cases g4:57<e2.toNat
        ·have HN:=yH (HNO.out (.inr (.inr (by simp[isD];omega))))
         go_wp2_with (fail)
         go_ret2
         exact⟨ret_two (none1 HN.out) (none2 HN.out),by assumption⟩
        ·go_wp2_with (fail)
         go_round
         case rel=>exact .inr (.inr ⟨by go_num,by go_num,by omega,by omega,by omega,by omega⟩)
         case measure=>simp[RowKit.intOf];omega
      ·by_cases hv:v<0
       ·have HN:=yH (HNO.out (.inl hv))
        go_wp2_with ((go_at_call 47;(with_reducible refine(rtext_at _ A (by have:=HA.out;omega) (by omega) (by omega) _ _ (by assumption)).mono ?_);rintro e w' ⟨rfl,hr'⟩))
        go_ret2
        exact⟨ret_two (none1 HN.out) (none2 HN.out),by assumption⟩
       ·have HY:=yH (HYES.out (by omega) (isD_iff.2 ⟨g1,g2⟩) (isD_iff.2 ⟨g3,g4⟩))
        by_cases ht:txt A=c::r
        ·have HY:=yH (HY.out.trans (if_pos ht))
         have ht':(txt A==c::r)=true:=by simpa using ht
         clear ht
         go_wp2_with ((go_at_call 47;(with_reducible refine(rtext_at _ A (by have:=HA.out;omega) (by omega) (by omega) _ _ (by assumption)).mono ?_);rintro e w' ⟨rfl,hr'⟩))
         go_ret2
         exact⟨ret_two (by have h1:=HA.out;have h2:=some1 HY.out;omega) (some2 HY.out),by assumption⟩
        ·have HN:=yH (HY.out.trans (if_neg ht))
         have ht':(txt A==c::r)=false:=by simpa using ht
         clear ht
         go_wp2_with ((go_at_call 47;(with_reducible refine(rtext_at _ A (by have:=HA.out;omega) (by omega) (by omega) _ _ (by assumption)).mono ?_);rintro e w' ⟨rfl,hr'⟩))
         go_ret2
         exact⟨ret_two (none1 HN.out) (none2 HN.out),by assumption⟩
    ·have h46':((d.toNat:Int) !=46)=true:=by simp;omega
     have HR:=yH (ref_dot (l:=c::r) (by rw[eb];omega) (by rw[eb,hm,show m+4-3=m+1 by omega,hd];intro e;exact h46 (by rw[Option.some.inj e];rfl)))
     have HB2:(B (c::r)).size=m+5:=by rw[HB];simp;omega
     rw[show r.length+1=m+5 by omega] at HX
     clear HB
     clear eb en h4 h46 hm hd
     go_enter Tryz.func82,Tryz.ntmps82
     go_wp2_with (fail)
     go_ret2
     exact⟨ret_two (none1 HR.out) (none2 HR.out),hr⟩
  ·have h45':((c.toNat:Int)==45)=false:=by simp;omega
   have hn:negL (c::r)=false:=by
    unfold negL;simp;intro e;exact h45 (by rw[e];rfl)
   have eb:body (c::r)=c::r:=by unfold body;rw[hn];rfl
   have en:(if negL (c::r) then (-1:Int) else 1)=1:=by rw[hn];rfl
   have hlr:(c::r).length≤9223372036854775807:=hl
   clear hn h45
   by_cases h4:(c::r).length<4
   ·have HR:=yH (ref_short (l:=c::r) (by rw[eb];exact h4))
    have HBt:=B_size (c::r)
    have q:(((c::r)).length:Int)<4:=by omega
    have q':(r.length:Int)+1<4:=by simp at h4;omega
    clear eb en h4
    go_enter Tryz.func82,Tryz.ntmps82
    go_wp2_with (fail)
    go_ret2
    exact⟨ret_two (none1 HR.out) (none2 HR.out),hr⟩
   ·obtain⟨m,hm⟩:∃m,(c::r).length=m+4:=⟨(c::r).length-4,by omega⟩
    have HBt:(B (c::r)).size=m+4:=by rw[B_size];exact hm
    have hmb:(m:Int)≤9223372036854775803:=by omega
    obtain⟨d,hd⟩:∃d,(c::r)[m+1]?=some d:=⟨_,List.getElem?_eq_getElem (by omega)⟩
    have HD:∀h,(B (c::r))[m+1]'h=d:=fun h=>B_at hd h
    by_cases h46:d.toNat=46
    ·have hd':d=46:=UInt8.toNat_inj.1 h46
     have h46':((d.toNat:Int) !=46)=false:=by simp;omega
     obtain⟨e1,e2,hp,he1,he2⟩:=parts_at hm (by rw[hd,hd'])
     have HE1:∀h,(B (c::r))[m+2]'h=e1:=fun h=>B_at he1 h
     have HE2:∀h,(B (c::r))[m+3]'h=e2:=fun h=>B_at he2 h
     have HXT:=B_extract (c::r) (m+1)
     obtain⟨x,hx⟩:∃x,(c::r).take (m+1)=x:=⟨_,rfl⟩
     rw[hx] at hp HXT
     have zx:(B x).size≤9223372036854775807:=by rw[B_size,←hx,List.length_take];omega
     obtain⟨v,hv⟩:∃v,cnt x 10000000000=v:=⟨_,rfl⟩
     have HW:=yH (show cnt (B x).data.toList 10000000000=v by rw[B_list];exact hv)
     have vb:=cnt_bd x 10000000000
     rw[hv] at vb
     have v1: -1≤v:=by omega
     have v2:v≤10000000000:=by omega
     obtain⟨A,hA⟩:∃A,A=1*(v*100+two e1 e2):=⟨_,rfl⟩
     have HA:=yH (show A=1*(v*100+(((e1.toNat:Int)-48)*10+((e2.toNat:Int)-48))) from hA)
     have HNO:=yH (fun h=>ref_no (eb.trans hp) (l:=c::r) h)
     have HYES:=yH (fun a b d=>ref_yes (eb.trans hp) (l:=c::r) a b d)
     rw[hv,en,←hA] at HYES
     rw[hv] at HNO
     have HTA:=tx_toList A
     clear eb en h4 hm hd hp he1 he2 hx hv vb hA hd' h46
     go_enter Tryz.func82,Tryz.ntmps82
     go_wp2_with ((go_at_call 81;(with_reducible refine(int_at v (rcount_any _ _ (by omega) _ _ (by assumption)) HW).mono ?_);rintro e w' ⟨rfl,hr'⟩))
     go_loop [7,8] (fun t i=>(i= .int .i64 ((m:Int)+2)∧t= .int .i64 0)∨(i= .int .i64 ((m:Int)+3)∧t= .int .i64 ((e1.toNat:Int)-48)∧48≤e1.toNat∧e1.toNat≤57)∨(i= .int .i64 ((m:Int)+4)∧t= .int .i64 (10*((e1.toNat:Int)-48)+((e2.toNat:Int)-48))∧48≤e1.toNat∧e1.toNat≤57∧48≤e2.toNat∧e2.toNat≤57)) (fun _ i=>m+4-(RowKit.intOf i).toNat)
     case atStart=>exact .inl ⟨by go_num,rfl⟩
     case round=>
      rcases hrel with ⟨rfl,rfl⟩|⟨rfl,rfl,g1,g2⟩|⟨rfl,rfl,g1,g2,g3,g4⟩
      ·by_cases g1:e1.toNat<48
       ·have HN:=yH (HNO.out (.inr (.inl (by simp[isD];omega))))
        go_wp2_with (fail)
        go_ret2
        exact⟨ret_two (none1 HN.out) (none2 HN.out),by assumption⟩
       ·by_cases g2:57<e1.toNat
        ·have HN:=yH (HNO.out (.inr (.inl (by simp[isD];omega))))
         go_wp2_with (fail)
         go_ret2
         exact⟨ret_two (none1 HN.out) (none2 HN.out),by assumption⟩
        ·go_wp2_with (fail)
         go_round
         case rel=>exact .inr (.inl ⟨by go_num,by go_num,by omega,by omega⟩)
         case measure=>simp[RowKit.intOf];omega
      ·by_cases g3:e2.toNat<48
       ·have HN:=yH (HNO.out (.inr (.inr (by simp[isD];omega))))
        go_wp2_with (fail)
        go_ret2
        exact⟨ret_two (none1 HN.out) (none2 HN.out),by assumption⟩
       ·by_cases g4:57<e2.toNat
        ·have HN:=yH (HNO.out (.inr (.inr (by simp[isD];omega))))
         go_wp2_with (fail)
         go_ret2
         exact⟨ret_two (none1 HN.out) (none2 HN.out),by assumption⟩
        ·go_wp2_with (fail)
         go_round
         case rel=>exact .inr (.inr ⟨by go_num,by go_num,by omega,by omega,by omega,by omega⟩)
         case measure=>simp[RowKit.intOf];omega
      ·by_cases hv:v<0
       ·have HN:=yH (HNO.out (.inl hv))
        go_wp2_with ((go_at_call 47;(with_reducible refine(rtext_at _ A (by have:=HA.out;omega) (by omega) (by omega) _ _ (by assumption)).mono ?_);rintro e w' ⟨rfl,hr'⟩))
        go_ret2
        exact⟨ret_two (none1 HN.out) (none2 HN.out),by assumption⟩
       ·have HY:=yH (HYES.out (by omega) (isD_iff.2 ⟨g1,g2⟩) (isD_iff.2 ⟨g3,g4⟩))
        by_cases ht:txt A=c::r
        ·have HY:=yH (HY.out.trans (if_pos ht))
         have ht':(txt A==c::r)=true:=by simpa using ht
         clear ht
         go_wp2_with ((go_at_call 47;(with_reducible refine(rtext_at _ A (by have:=HA.out;omega) (by omega) (by omega) _ _ (by assumption)).mono ?_);rintro e w' ⟨rfl,hr'⟩))
         go_ret2
         exact⟨ret_two (by have h1:=HA.out;have h2:=some1 HY.out;omega) (some2 HY.out),by assumption⟩
        ·have HN:=yH (HY.out.trans (if_neg ht))
         have ht':(txt A==c::r)=false:=by simpa using ht
         clear ht
         go_wp2_with ((go_at_call 47;(with_reducible refine(rtext_at _ A (by have:=HA.out;omega) (by omega) (by omega) _ _ (by assumption)).mono ?_);rintro e w' ⟨rfl,hr'⟩))
         go_ret2
         exact⟨ret_two (none1 HN.out) (none2 HN.out),by assumption⟩
    ·have h46':((d.toNat:Int) !=46)=true:=by simp;omega
     have HR:=yH (ref_dot (l:=c::r) (by rw[eb];omega) (by rw[eb,hm,show m+4-3=m+1 by omega,hd];intro e;exact h46 (by rw[Option.some.inj e];rfl)))
     clear eb en h4 h46 hm hd
     go_enter Tryz.func82,Tryz.ntmps82
     go_wp2_with (fail)
     go_ret2
     exact⟨ret_two (none1 HR.out) (none2 HR.out),hr⟩
theorem rparse_any(s:ByteArray)(hl:s.size≤9223372036854775807)(w0 w:World)(hr:Rel w0 w):
  Calls Tryz.prog 82 #[.string s] w fun e w'=>Two e (prs1 s.data.toList) (prs2 s.data.toList)∧Rel w0 w':=by
 have:=rparse_list s.data.toList (by simpa using hl) w0 w hr
 rwa [B_of] at this
def TokPost(l:List UInt8)(p:Int)(e:Ending):Prop:=
 (∃k n,tokOf l=some (k,n)∧e= .returned (.tuple #[TK (k,l,n,p),.bool true]))∨(tokOf l=none∧∃t,e= .returned (.tuple #[TK t,.bool false]))
theorem rtoken_any(l:List UInt8)(p:Int)(hl:l.length≤9223372036854775807)(w0 w:World)(hr:Rel w0 w):
  Calls Tryz.prog 71 #[.string (B l),.int .i64 p] w fun e w'=>TokPost l p e∧Rel w0 w':=by
 have HBL:(B l).data.toList=l:=B_list l
 have hz:(B l).size≤9223372036854775807:=by rw[B_size];exact hl
 have z:=hr.size
 have hr1:=hr.alloc (.cells #[.int .i64 0,.string ⟨#[]⟩,.int .i64 0,.int .i64 0] 87)
 have HB:=yH (Bk.new w 87 #[.int .i64 0,.string ⟨#[]⟩,.int .i64 0,.int .i64 0])
 have HR:=yH hr1
 cases hw:isWord l
 ·cases hn:isName l
  ·obtain⟨n,hN⟩:∃n,cnt l 100000=n:=⟨_,rfl⟩
   have HWd:=yH (show isWord (B l).data.toList=false by rw[HBL];exact hw)
   have HNd:=yH (show isName (B l).data.toList=false by rw[HBL];exact hn)
   have HCd:=yH (show cnt (B l).data.toList 100000=n by rw[HBL];exact hN)
   by_cases hc:0≤n
   ·have HF:=yH (tok_count hw hn (by rw[hN];exact hc))
    rw[hN] at HF
    clear hw hn hN HBL hr1
    go_enter Tryz.func71,Tryz.ntmps71
    go_wp2_with (first
     |(go_at_call 69;(with_reducible refine(bool_at false (rword_any _ _ _ HR.out.self) HWd).mono ?_);rintro e w1 ⟨rfl,h1⟩)
     |(go_at_call 57;(with_reducible refine(bool_at false (rname_any _ hz _ _ h1.self) HNd).mono ?_);rintro e w2 ⟨rfl,h2⟩)
     |(go_at_call 81;(with_reducible refine(int_at n (rcount_any _ _ hz _ _ h2.self) HCd).mono ?_);rintro e w3 ⟨rfl,h3⟩;obtain⟨⟨c0,c1,c2,c3⟩,f0,f1,f2,f3⟩:=(((HB.out.rel h1).rel h2).rel h3).four))
    obtain⟨⟨r0,r1,r2,r3⟩,_⟩:=((((HB.out.rel h1).rel h2).rel h3).put4 (.int .i64 2) (.string (B l)) (.int .i64 n) (.int .i64 p)).four
    exact bodyPost_ret (v:= .tuple #[TK (2,l,n,p),.bool true]) (by simp[results,Tryz.results71,go_sem,r0,r1,r2,r3]) rfl ⟨.inl ⟨2,n,HF.out,rfl⟩,(((HR.out.trans h1).trans h2).trans h3).put4 z _ _ _ _⟩
   ·have HF:=yH (tok_money hw hn (by rw[hN];exact hc))
    obtain⟨m,hm⟩:∃m,prs1 l=m:=⟨_,rfl⟩
    obtain⟨e,he⟩:∃m,prs2 l=m:=⟨_,rfl⟩
    have HM1:=yH (show prs1 (B l).data.toList=m by rw[HBL];exact hm)
    have HM2:=yH (show prs2 (B l).data.toList=e by rw[HBL];exact he)
    have HP:=yH (show ∀o:Option Int,o=prs l→(o=none∧e≠0)∨(o=some m∧e=0) from fun o ho=>by
     subst ho
     unfold prs1 at hm
     unfold prs2 at he
     cases h:prs l with
     |none=>rw[h] at he;exact .inl ⟨rfl,by simp at he;omega⟩
     |some a=>rw[h] at he hm;exact .inr ⟨by simp at hm;rw[hm],by simp at he;omega⟩)
    clear hw hn hN HBL hr1 hm he
    go_enter Tryz.func71,Tryz.ntmps71
    go_wp2_with (first
     |(go_at_call 69;(with_reducible refine(bool_at false (rword_any _ _ _ HR.out.self) HWd).mono ?_);rintro e w1 ⟨rfl,h1⟩)
     |(go_at_call 57;(with_reducible refine(bool_at false (rname_any _ hz _ _ h1.self) HNd).mono ?_);rintro e w2 ⟨rfl,h2⟩)
     |(go_at_call 81;(with_reducible refine(int_at n (rcount_any _ _ hz _ _ h2.self) HCd).mono ?_);rintro e w3 ⟨rfl,h3⟩)
     |(go_at_call 82;(with_reducible refine(two_at m e (rparse_any _ hz _ _ h3.self) HM1 HM2).mono ?_);rintro e w4 ⟨rfl,h4⟩;obtain⟨⟨c0,c1,c2,c3⟩,f0,f1,f2,f3⟩:=((((HB.out.rel h1).rel h2).rel h3).rel h4).four))
    obtain⟨⟨r0,r1,r2,r3⟩,_⟩:=(((((HB.out.rel h1).rel h2).rel h3).rel h4).put4 (.int .i64 3) (.string (B l)) (.int .i64 m) (.int .i64 p)).four
    refine bodyPost_ret (v:= .tuple #[TK (3,l,m,p),.bool (e==0)]) (by simp[results,Tryz.results71,go_sem,r0,r1,r2,r3]) rfl ⟨?_,((((HR.out.trans h1).trans h2).trans h3).trans h4).put4 z _ _ _ _⟩
    rcases HP.out _ rfl with ⟨q1,q2⟩|⟨q1,q2⟩
    ·exact .inr ⟨by rw[HF.out,q1];rfl,_,by rw[show(e==0)=false by simpa using q2]⟩
    ·exact .inl ⟨3,m,by rw[HF.out,q1];rfl,by rw[q2];rfl⟩
  ·have HF:=yH (tok_word (.inr hn))
   have HWd:=yH (show isWord (B l).data.toList=false by rw[HBL];exact hw)
   have HNd:=yH (show isName (B l).data.toList=true by rw[HBL];exact hn)
   clear hw hn HBL hr1
   go_enter Tryz.func71,Tryz.ntmps71
   go_wp2_with (first
    |(go_at_call 69;(with_reducible refine(bool_at false (rword_any _ _ _ HR.out.self) HWd).mono ?_);rintro e w1 ⟨rfl,h1⟩)
    |(go_at_call 57;(with_reducible refine(bool_at true (rname_any _ hz _ _ h1.self) HNd).mono ?_);rintro e w2 ⟨rfl,h2⟩;obtain⟨⟨c0,c1,c2,c3⟩,f0,f1,f2,f3⟩:=((HB.out.rel h1).rel h2).four))
   obtain⟨⟨r0,r1,r2,r3⟩,_⟩:=(((HB.out.rel h1).rel h2).put4 (.int .i64 1) (.string (B l)) (.int .i64 0) (.int .i64 p)).four
   exact bodyPost_ret (v:= .tuple #[TK (1,l,0,p),.bool true]) (by simp[results,Tryz.results71,go_sem,r0,r1,r2,r3]) rfl ⟨.inl ⟨1,0,HF.out,rfl⟩,((HR.out.trans h1).trans h2).put4 z _ _ _ _⟩
 ·have HF:=yH (tok_word (.inl hw))
  have HWd:=yH (show isWord (B l).data.toList=true by rw[HBL];exact hw)
  clear hw HBL hr1
  go_enter Tryz.func71,Tryz.ntmps71
  go_wp2_with (go_at_call 69;(with_reducible refine(bool_at true (rword_any _ _ _ HR.out.self) HWd).mono ?_);rintro e w1 ⟨rfl,h1⟩;obtain⟨⟨c0,c1,c2,c3⟩,f0,f1,f2,f3⟩:=(HB.out.rel h1).four)
  obtain⟨⟨r0,r1,r2,r3⟩,_⟩:=((HB.out.rel h1).put4 (.int .i64 1) (.string (B l)) (.int .i64 0) (.int .i64 p)).four
  exact bodyPost_ret (v:= .tuple #[TK (1,l,0,p),.bool true]) (by simp[results,Tryz.results71,go_sem,r0,r1,r2,r3]) rfl ⟨.inl ⟨1,0,HF.out,rfl⟩,(HR.out.trans h1).put4 z _ _ _ _⟩
end Go.Proofs.YtjhjdiaomnpkmaaGreatDoor
