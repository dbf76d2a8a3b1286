/- What is scanned. -/

import Derived.Test.YtfekhbeaphpelaaGreatDoorY04
set_option maxRecDepth 100000
set_option maxHeartbeats 8000000
set_option linter.unusedVariables false
set_option linter.unusedSimpArgs false
namespace Go.Proofs.YtfekhbeaphpelaaGreatDoor
open Go.RowKit Go.Lib
def Out(l:List UInt8)(ts:List Tok)(err place:Int):Prop:=
 (2000<l.length∧ts=[]∧err=60∧place=2000)∨(l.length≤2000∧lx 0 l= .ok ts∧err=0∧place=0)∨(l.length≤2000∧∃k:Nat,lx 0 l= .error k∧ts=[]∧err=61∧place=k)
def LexPost(l:List UInt8)(w0:World)(e:Ending)(w':World):Prop:=
 ∃(ts:List Tok)(A:Option Addr)(c:Nat)(err place:Int),e= .returned (.tuple #[.slice A ts.length c,yI err,yI place])∧Rel w0 w'∧ToksAt w' A ts∧Out l ts err place
theorem Out.det{l:List UInt8}{ts ts':List Tok}{e e' p p':Int}(h:Out l ts e p)(h':Out l ts' e' p'):ts=ts'∧e=e'∧p=p':=by
 rcases h with ⟨a,rfl,rfl,rfl⟩|⟨a,b,rfl,rfl⟩|⟨a,k,b,rfl,rfl,rfl⟩<;>rcases h' with ⟨a',rfl,rfl,rfl⟩|⟨a',b',rfl,rfl⟩|⟨a',k',b',rfl,rfl,rfl⟩
 ·exact⟨rfl,rfl,rfl⟩
 ·omega
 ·omega
 ·omega
 ·rw[b] at b';injection b' with b';exact⟨b',rfl,rfl⟩
 ·rw[b] at b';cases b'
 ·omega
 ·rw[b] at b';cases b'
 ·rw[b] at b';injection b' with b';subst b';exact⟨rfl,rfl,rfl⟩
theorem B_cut(s:ByteArray)(i j:Nat):s.extract i j=B ((s.data.toList.drop i).take (j-i)):=by
 apply ByteArray.ext
 apply Array.ext'
 simp[B,ByteArray.data_extract,List.extract_eq_take_drop]
theorem run_at(s:ByteArray)(p:Nat)(hp:p≤s.size):∃m,p+m≤s.size∧(∀j (h:p+j<s.size),j<m→isPt (s[p+j]'h)=true)∧(∀h:p+m<s.size,isPt (s[p+m]'h)=false)∧
  s.extract p (p+m)=B ((s.data.toList.drop p).takeWhile isPt)∧((s.data.toList.drop p).takeWhile isPt).length=m∧(s.data.toList.drop p).dropWhile isPt=s.data.toList.drop (p+m):=by
 have el:s.data.toList.length=s.size:=by simp
 obtain⟨x,hx⟩:∃x,(s.data.toList.drop p).takeWhile isPt=x:=⟨_,rfl⟩
 obtain⟨r,hr⟩:∃r,(s.data.toList.drop p).dropWhile isPt=r:=⟨_,rfl⟩
 have hL:s.data.toList.drop p=x++r:=by rw[←hx,←hr];exact(List.takeWhile_append_dropWhile).symm
 have hlen:x.length+r.length=s.size-p:=by rw[←List.length_append,←hL,List.length_drop,el]
 have hat:∀j (h:p+j<s.size),(x++r)[j]?=some (s[p+j]'h):=fun j h=>by
  rw[←hL,List.getElem?_drop,List.getElem?_eq_getElem (by omega)];rfl
 have hall:x.all isPt=true:=by rw[←hx];exact all_run _
 refine⟨x.length,by omega, ?_, ?_, ?_,by rw[hx], ?_⟩
 ·intro j h hj
  have:=hat j h
  rw[List.getElem?_append_left hj,List.getElem?_eq_getElem hj] at this
  rw[←Option.some.inj this]
  exact List.all_eq_true.1 hall _ (List.getElem_mem hj)
 ·intro h
  have:=hat x.length h
  rw[List.getElem?_append_right (Nat.le_refl _),Nat.sub_self] at this
  cases r with
  |nil=>simp at this
  |cons d u=>
   simp at this
   rw[←this]
   have hd:=List.head?_dropWhile_not isPt (s.data.toList.drop p)
   rw[hr] at hd
   simpa using hd
 ·rw[B_cut,hx,hL,show p+x.length-p=x.length by omega,List.take_left]
 ·rw[hr,←List.drop_drop,hL,List.drop_left]
theorem TokOwn.row{w:World}{base:Nat}{v:Value}{ts:List Tok}(h:TokOwn w base v ts):w.ownsRow base 78 4 v ts.length (cellsOf ts):=h
theorem drop_cons(s:ByteArray)(p:Nat)(h:p<s.size):s.data.toList.drop p=(s[p]'h)::s.data.toList.drop (p+1):=by
 have el:s.data.toList.length=s.size:=by simp
 rw[List.drop_eq_getElem_cons (by omega)];rfl
theorem cut_one(s:ByteArray)(p:Nat)(h:p<s.size):s.extract p (p+1)=B [s[p]'h]:=by
 rw[B_cut,drop_cons s p h,show p+1-p=1 by omega];rfl
def At(l:List UInt8)(p:Nat)(ts:List Tok):Prop:=lx 0 l=pre ts (lx p (l.drop p))∧ts.length≤p
theorem At.start(l:List UInt8):At l 0 []:=⟨by rw[pre_nil];rfl,by simp⟩
theorem At.blank{s:ByteArray}{p:Nat}{ts:List Tok}(h:At s.data.toList p ts)(hp:p<s.size)(hb:isBl (s[p]'hp)=true):At s.data.toList (p+1) ts:=
 ⟨by rw[h.1,drop_cons s p hp,lx_blank _ _ _ hb],by have:=h.2;omega⟩
theorem At.sign{s:ByteArray}{p:Nat}{ts:List Tok}(h:At s.data.toList p ts)(hp:p<s.size)(hb:isSg (s[p]'hp)=true):At s.data.toList (p+1) (ts++[(4,[s[p]'hp],0,(p:Int))]):=
 ⟨by rw[h.1,drop_cons s p hp,lx_sign _ _ _ (sg_not hb).1 hb,pre_pre],by have:=h.2;simp;omega⟩
theorem At.tok{s:ByteArray}{p m:Nat}{ts:List Tok}{x:List UInt8}{k n:Int}(h:At s.data.toList p ts)(hp:p<s.size)(hb:isBl (s[p]'hp)=false)(hg:isSg (s[p]'hp)=false)
  (hx:(s.data.toList.drop p).takeWhile isPt=x) (hm:x.length=m) (hd:(s.data.toList.drop p).dropWhile isPt=s.data.toList.drop (p+m)) (ht:tokOf x=some (k,n)):At s.data.toList (p+m) (ts++[(k,x,n,(p:Int))]):=by
 have hm1:1≤m:=by
  have:=tokOf_ne ht
  rcases x with _|⟨a,b⟩
  ·exact absurd rfl this
  ·simp at hm;omega
 refine⟨?_,by have:=h.2;simp;omega⟩
 rw[h.1]
 have e:=drop_cons s p hp
 rw[e] at hx hd
 rw[e,lx_tok _ _ _ k n hb hg (by rw[hx];exact ht),hx,hd,hm,pre_pre]
theorem At.bad{s:ByteArray}{p:Nat}{ts:List Tok}{x:List UInt8}(h:At s.data.toList p ts)(hp:p<s.size)(hb:isBl (s[p]'hp)=false)(hg:isSg (s[p]'hp)=false)
  (hx:(s.data.toList.drop p).takeWhile isPt=x) (ht:tokOf x=none):lx 0 s.data.toList= .error p:=by
 rw[h.1]
 have e:=drop_cons s p hp
 rw[e] at hx
 rw[e,lx_bad _ _ _ hb hg (by rw[hx];exact ht)];rfl
theorem At.done{s:ByteArray}{ts:List Tok}(h:At s.data.toList s.size ts):lx 0 s.data.toList= .ok (ts++[(5,[],0,(s.size:Int))]):=by
 have el:s.data.toList.length=s.size:=by simp
 rw[h.1,List.drop_of_length_le (by omega),lx_nil];rfl
theorem run_to(s:ByteArray)(p:Nat)(hp:p≤s.size):∃(e:Nat)(x:List UInt8),p≤e∧e≤s.size∧(∀q (h:q<s.size),p≤q→q<e→isPt (s[q]'h)=true)∧(∀h:e<s.size,isPt (s[e]'h)=false)∧
  s.extract p e=B x∧(s.data.toList.drop p).takeWhile isPt=x∧p+x.length=e∧(s.data.toList.drop p).dropWhile isPt=s.data.toList.drop e:=by
 obtain⟨m,h1,h2,h3,h4,h5,h6⟩:=run_at s p hp
 refine⟨p+m,_,by omega,h1,fun q h ha hb=> ?_,h3,h4,rfl,by rw[h5],h6⟩
 have:=h2 (q-p) (by omega) (by omega)
 simp only[show p+(q-p)=q by omega] at this
 exact this
theorem pt_ways{c:UInt8}(h:isPt c=true):isL c=true∨(isL c=false∧isD c=true)∨(isL c=false∧isD c=false∧((c.toNat:Int)==46)=true):=by
 cases hl:isL c
 ·cases hd:isD c
  ·have:c=46:=by simpa [isPt,hl,hd] using h
   subst this
   exact .inr (.inr ⟨rfl,rfl,rfl⟩)
  ·exact .inr (.inl ⟨rfl,rfl⟩)
 ·exact .inl rfl
theorem pt_none{c:UInt8}(h:isPt c=false):isL c=false∧isD c=false∧((c.toNat:Int)==46)=false:=by
 simp only[isPt,Bool.or_eq_false_iff] at h
 refine⟨h.1.1,h.1.2, ?_⟩
 simp only[beq_eq_false_iff_ne,ne_eq] at h⊢
 intro e
 exact h.2 (UInt8.toNat_inj.1 (by rw[show(46:UInt8).toNat=46 from rfl];omega))
theorem byte_eq{c d:UInt8}(n:Int)(hd:(d.toNat:Int)=n):((c.toNat:Int)==n)=(c==d):=by
 apply Bool.eq_iff_iff.2
 simp only[beq_iff_eq]
 constructor
 ·intro e;exact UInt8.toNat_inj.1 (by omega)
 ·rintro rfl;exact hd
theorem bl_bytes(c:UInt8):isBl c=(((c.toNat:Int)==32)||((c.toNat:Int)==10)):=by
 rw[byte_eq (d:=32) 32 rfl,byte_eq (d:=10) 10 rfl];rfl
theorem sg_bytes(c:UInt8):isSg c=(((c.toNat:Int)==40)||((c.toNat:Int)==41)||((c.toNat:Int)==44)):=by
 rw[byte_eq (d:=40) 40 rfl,byte_eq (d:=41) 41 rfl,byte_eq (d:=44) 44 rfl];rfl
theorem ways(c:UInt8):
  (isBl c=true∧((c.toNat:Int)==32)=true)∨(isBl c=true∧((c.toNat:Int)==32)=false∧((c.toNat:Int)==10)=true)∨
  (isSg c=true∧((c.toNat:Int)==32)=false∧((c.toNat:Int)==10)=false∧((c.toNat:Int)==40)=true)∨
  (isSg c=true∧((c.toNat:Int)==32)=false∧((c.toNat:Int)==10)=false∧((c.toNat:Int)==40)=false∧((c.toNat:Int)==41)=true)∨
  (isSg c=true∧((c.toNat:Int)==32)=false∧((c.toNat:Int)==10)=false∧((c.toNat:Int)==40)=false∧((c.toNat:Int)==41)=false∧((c.toNat:Int)==44)=true)∨
  ((isBl c=false∧isSg c=false)∧((c.toNat:Int)==32)=false∧((c.toNat:Int)==10)=false∧((c.toNat:Int)==40)=false∧((c.toNat:Int)==41)=false∧((c.toNat:Int)==44)=false):=by
 have h1:=bl_bytes c
 have h2:=sg_bytes c
 have h3:=fun h=>(sg_not (c:=c) h).1
 revert h1 h2 h3
 cases((c.toNat:Int)==32)<;>cases((c.toNat:Int)==10)<;>cases((c.toNat:Int)==40)<;>cases((c.toNat:Int)==41)<;>cases((c.toNat:Int)==44)<;>cases isBl c<;>cases isSg c<;>simp
theorem rtoken_yes(x:List UInt8)(S:ByteArray)(p k n:Int)(hS:Hid (S=B x))(h:Hid (tokOf x=some (k,n)))(hl:x.length≤9223372036854775807)(w0 w:World)(hr:Rel w0 w):
  Calls Tryz.prog 59 #[.string S,yI p] w fun e w'=>e= .returned (.tuple #[TK (k,x,n,p),.bool true])∧Rel w0 w':=by
 rw[hS.out]
 refine(rtoken_any x p hl w0 w hr).mono ?_
 rintro e w' ⟨⟨k',n',h',he⟩|⟨h',_⟩,hr'⟩
 ·rw[h.out] at h'
  injection h' with h'
  injection h' with a b
  subst a;subst b
  exact⟨he,hr'⟩
 ·rw[h.out] at h';cases h'
theorem rtoken_no(x:List UInt8)(S:ByteArray)(p:Int)(hS:Hid (S=B x))(h:Hid (tokOf x=none))(hl:x.length≤9223372036854775807)(w0 w:World)(hr:Rel w0 w):
  Calls Tryz.prog 59 #[.string S,yI p] w fun e w'=>(∃t:Tok,e= .returned (.tuple #[TK t,.bool false]))∧Rel w0 w':=by
 rw[hS.out]
 refine(rtoken_any x p hl w0 w hr).mono ?_
 rintro e w' ⟨⟨k',n',h',he⟩|⟨h',t,he⟩,hr'⟩
 ·rw[h.out] at h';cases h'
 ·exact⟨⟨t,he⟩,hr'⟩
theorem rlex_any(s:ByteArray)(hs:s.size≤9223372036854775807)(w0 w:World)(hr:Rel w0 w):
  Calls Tryz.prog 37 #[.string s] w (LexPost s.data.toList w0):=by
 obtain⟨i0,hi,hz0,hz1,hz2⟩:=info_parts tok_info
 have el:s.data.toList.length=s.size:=by simp
 have EL:=yH el
 have HR:=yH hr
 have HW:=yH hr.self
 clear el
 by_cases hlong:2000<s.size
 ·go_enter Tryz.func37,Tryz.ntmps37
  go_wp2_with (fail)
  go_ret3
  exact⟨[],none,0,60,2000,rfl,HR.out,ToksAt.nil _ _,.inl ⟨by rw[EL.out];exact hlong,rfl,rfl,rfl⟩⟩
 ·have hlong':(s.size:Int)≤2000:=by omega
  clear hs
  go_enter Tryz.func37,Tryz.ntmps37
  go_wp2_with (fail)
  go_loopw [5,6] (fun v i wr=>∃(p:Nat)(A:Option Addr)(c:Nat)(ts:List Tok),p≤s.size∧i=yI p∧v= .slice A ts.length c∧Rel w wr∧TokOwn wr w.heap.size (.slice A ts.length c) ts∧Hid (At s.data.toList p ts)) (fun _ i _=>s.size-(RowKit.intOf i).toNat)
  case atStart=>exact⟨0,none,0,[],by omega,rfl,rfl,HW.out,TokOwn.nil _ _,yH (At.start _)⟩
  case round=>
   obtain⟨p,A,c,ts,hp,rfl,rfl,hR2,hE,HS⟩:=hrel
   have htl:=HS.out.2
   have hsz:=hR2.size
   by_cases hlt:p<s.size
   ·obtain⟨e,x,hpe,hes,hin,hout,hx,hxt,hxl,hxd⟩:=run_to s p hp
    have HIN:=yH hin
    have HOUT:=yH hout
    have HX:=yH hx
    have HXT:=yH hxt
    have HXL:=yH hxl
    have HXD:=yH hxd
    clear hin hout hx hxt hxl hxd
    go_wp2_with (fail)
    go_loop [7] (fun k=>∃q:Nat,p≤q∧q≤e∧k=yI (q:Int)) (fun k=>e-(RowKit.intOf k).toNat)
    case atStart=>exact⟨p,by omega,by omega,rfl⟩
    case round=>
     obtain⟨q,hq1,hq2,rfl⟩:=hrel
     by_cases hqe:q<e
     ·have hqs:q<s.size:=by omega
      have ht:=HIN.out q hqs hq1 hqe
      obtain⟨y,hy⟩:∃y,y=s[q]'hqs:=⟨_,rfl⟩
      rw[←hy] at ht
      have hg:∀h,s[q]'h=y:=fun h=>hy.symm
      clear hy
      rcases pt_ways ht with h1|⟨h1,h2⟩|⟨h1,h2,h3⟩
      all_goals
       have H1:=yH h1
       try have H2:=yH h2
       clear h1 ht
       try clear h2
       go_wp2_with (first
           |(go_at_call 57;(with_reducible refine(bool_at _ (rletter_any y _) H1).mono ?_);rintro e w' ⟨rfl,rfl⟩)
           |(go_at_call 58;(with_reducible refine(bool_at _ (rdigit_any y _) H2).mono ?_);rintro e w' ⟨rfl,rfl⟩))
       go_round
       case rel=>exact⟨q+1,by omega,by omega,by go_num⟩
       case measure=>simp[RowKit.intOf];omega
     ·obtain rfl:q=e:=by omega
      have hgo:∀h,s[p]'h=s[p]'hlt:=fun h=>rfl
      obtain⟨cc,hcc⟩:∃cc,cc=s[p]'hlt:=⟨_,rfl⟩
      rw[←hcc] at hgo
      have HCC:=yH hcc
      clear hcc
      have hx9:x.length≤9223372036854775807:=by have:=HXL.out;omega
      have hend:(∃(hlt':q<s.size)(y:UInt8),Hid (y=s[q]'hlt')∧Hid (isL y=false)∧Hid (isD y=false)∧((y.toNat:Int)==46)=false)∨q=s.size:=by
       rcases Nat.lt_or_ge q s.size with h|h
       ·have:=pt_none (HOUT.out h)
        exact .inl ⟨h,s[q]'h,yH rfl,yH this.1,yH this.2.1,this.2.2⟩
       ·exact .inr (by omega)
      rcases hend with ⟨hqs,y,HY,H1,H2,h3⟩|hqs
      ·have hg2:∀h,s[q]'h=y:=fun h=>HY.out.symm
       rcases ways cc with ⟨hb,b1⟩|⟨hb,b1,b2⟩|⟨hb,b1,b2,b3⟩|⟨hb,b1,b2,b3,b4⟩|⟨hb,b1,b2,b3,b4,b5⟩|⟨hb,b1,b2,b3,b4,b5⟩
       iterate 2
           ·have HN:=yH (HS.out.blank hlt (by rw[←HCC.out];exact hb))
            clear hb hqe
            go_wp2_with (first
            |(go_at_call 57;(with_reducible refine(bool_at _ (rletter_any y _) H1).mono ?_);rintro e w' ⟨rfl,rfl⟩)
            |(go_at_call 58;(with_reducible refine(bool_at _ (rdigit_any y _) H2).mono ?_);rintro e w' ⟨rfl,rfl⟩))
            go_roundw
            case rel=>exact⟨p+1,A,c,ts,by omega,by go_num,rfl,hR2,hE,HN⟩
            case measure=>simp[RowKit.intOf];omega
       iterate 3
           ·have HN:=yH (HS.out.sign hlt (by rw[←HCC.out];exact hb))
            have hcut:=cut_one s p hlt
            rw[←HCC.out] at HN hcut
            clear hb hqe
            go_wp2_with (first
            |(go_at_call 57;(with_reducible refine(bool_at _ (rletter_any y _) H1).mono ?_);rintro e w' ⟨rfl,rfl⟩)
            |(go_at_call 58;(with_reducible refine(bool_at _ (rdigit_any y _) H2).mono ?_);rintro e w' ⟨rfl,rfl⟩)
            |(at_builtin;(refine wpList_append_lies _ rfl _ _ 71 rfl w.heap.size 78 i0 (.agg #[yI 0,.string ⟨#[]⟩,yI 0,yI 0]) 4 40 Tryz.underlying71 hi hz0 hz1 hz2 rfl (by decide) _ ts.length (cellsOf ts) rfl (hE.row.alloc _) ⟨(wr).heap.size,0,none⟩ 1 1 (cells4 (4,[cc],0,(p:Int))) rfl rfl (World.news_of_block (Bk.new (wr) 78 #[yI 4,.string (B [cc]),yI 0,yI (p:Int)])) (cells4_one _) (by decide) (by unfold maxLen;omega) (by omega) (by simp;omega) _ rfl ?_);intro g cap w1 hown1 hgrow hat hlt1))
            have hE5:=TokOwn.more (t:=(4,[cc],0,(p:Int))) hown1
            have hR6:Rel w w1:=(hR2.alloc _).grown hgrow (fun k hk=>(hE.row.lt k hk).1)
            have HL:=yH (show(ts++[(4,[cc],0,(p:Int))]).length=ts.length+1 by simp)
            go_roundw
            case rel=>exact⟨p+1,some ⟨g,0,none⟩,cap,ts++[(4,[cc],0,(p:Int))],by omega,by go_num,by rw[HL.out],hR6,by rw[HL.out];exact hE5,HN⟩
            case measure=>simp[RowKit.intOf];omega
       ·have hxx:=HX.out
        have hqs2:q≤s.size:=by omega
        rcases htk:tokOf x with _|⟨k,n⟩
        ·have HT:=yH htk
         have HN:=yH (HS.out.bad hlt (by rw[←HCC.out];exact hb.1) (by rw[←HCC.out];exact hb.2) HXT.out htk)
         clear hb hqe htk
         go_wp2_with (first
         |(go_at_call 57;(with_reducible refine(bool_at _ (rletter_any y _) H1).mono ?_);rintro e w' ⟨rfl,rfl⟩)
         |(go_at_call 58;(with_reducible refine(bool_at _ (rdigit_any y _) H2).mono ?_);rintro e w' ⟨rfl,rfl⟩)
         |(go_at_call 59;(with_reducible refine(rtoken_no x _ _ (yH rfl) HT hx9 _ _ hR2.self).mono ?_);rintro e w3 ⟨⟨t,rfl⟩,h3⟩))
         go_ret3
         exact⟨[],none,0,61,p,rfl,HR.out.trans ((hR2.trans h3).alloc _),ToksAt.nil _ _,.inr (.inr ⟨by rw[EL.out];omega,p,HN.out,rfl,rfl,rfl⟩)⟩
        ·have HT:=yH htk
         have HN:=yH (HS.out.tok hlt (by rw[←HCC.out];exact hb.1) (by rw[←HCC.out];exact hb.2) HXT.out rfl (by rw[HXD.out,HXL.out]) htk)
         rw[HXL.out] at HN
         have hpq:p<q:=by
          have:=HN.out.2
          have h1:=HXL.out
          have h2:=tokOf_ne htk
          rcases x with _|⟨a,b⟩
          ·exact absurd rfl h2
          ·simp at h1;omega
         clear hb hqe htk
         go_wp2_with (first
         |(go_at_call 57;(with_reducible refine(bool_at _ (rletter_any y _) H1).mono ?_);rintro e w' ⟨rfl,rfl⟩)
         |(go_at_call 58;(with_reducible refine(bool_at _ (rdigit_any y _) H2).mono ?_);rintro e w' ⟨rfl,rfl⟩)
         |(go_at_call 59;(with_reducible refine(rtoken_yes x _ _ k n (yH rfl) HT hx9 _ _ hR2.self).mono ?_);rintro e w3 ⟨rfl,h3⟩;have hE3:=(hE.rel h3).row;have hsz3:w.heap.size≤w3.heap.size:=(hR2.trans h3).size;obtain⟨⟨c0,c1,c2,c3⟩,_⟩:=(Bk.new w3 78 #[yI k,.string (B x),yI n,yI (p:Int)]).four)
         |(at_builtin;(refine wpList_append_lies _ rfl _ _ 71 rfl w.heap.size 78 i0 (.agg #[yI 0,.string ⟨#[]⟩,yI 0,yI 0]) 4 40 Tryz.underlying71 hi hz0 hz1 hz2 rfl (by decide) _ ts.length (cellsOf ts) rfl ((hE3.alloc _).alloc _) ⟨w3.heap.size+1,0,none⟩ 1 1 (cells4 (k,x,n,(p:Int))) rfl rfl (World.news_of_block (Bk.snd w3 #[yI k,.string (B x),yI n,yI (p:Int)] #[yI k,.string (B x),yI n,yI (p:Int)] 78 78)) (cells4_one _) (by decide) (by unfold maxLen;omega) (by omega) (by simp;omega) _ rfl ?_);intro g cap w1 hown1 hgrow hat hlt1))
         have hE5:=TokOwn.more (t:=(k,x,n,(p:Int))) hown1
         have hR6:Rel w w1:=(((hR2.trans h3).alloc _).alloc _).grown hgrow (fun k hk=>(hE3.lt k hk).1)
         have HL:=yH (show(ts++[(k,x,n,(p:Int))]).length=ts.length+1 by simp)
         go_roundw
         case rel=>exact⟨q,some ⟨g,0,none⟩,cap,ts++[(k,x,n,(p:Int))],by omega,by go_num,by rw[HL.out],hR6,by rw[HL.out];exact hE5,HN⟩
         case measure=>simp[RowKit.intOf];omega
      ·have hqs3:q=s.size:=hqs
       subst hqs3
       rcases ways cc with ⟨hb,b1⟩|⟨hb,b1,b2⟩|⟨hb,b1,b2,b3⟩|⟨hb,b1,b2,b3,b4⟩|⟨hb,b1,b2,b3,b4,b5⟩|⟨hb,b1,b2,b3,b4,b5⟩
       iterate 2
           ·have HN:=yH (HS.out.blank hlt (by rw[←HCC.out];exact hb))
            clear hb
            go_wp2_with (fail)
            go_roundw
            case rel=>exact⟨p+1,A,c,ts,by omega,by go_num,rfl,hR2,hE,HN⟩
            case measure=>simp[RowKit.intOf];omega
       iterate 3
           ·have HN:=yH (HS.out.sign hlt (by rw[←HCC.out];exact hb))
            have hcut:=cut_one s p hlt
            rw[←HCC.out] at HN hcut
            clear hb
            go_wp2_with (first
            |(at_builtin;(refine wpList_append_lies _ rfl _ _ 71 rfl w.heap.size 78 i0 (.agg #[yI 0,.string ⟨#[]⟩,yI 0,yI 0]) 4 40 Tryz.underlying71 hi hz0 hz1 hz2 rfl (by decide) _ ts.length (cellsOf ts) rfl (hE.row.alloc _) ⟨(wr).heap.size,0,none⟩ 1 1 (cells4 (4,[cc],0,(p:Int))) rfl rfl (World.news_of_block (Bk.new (wr) 78 #[yI 4,.string (B [cc]),yI 0,yI (p:Int)])) (cells4_one _) (by decide) (by unfold maxLen;omega) (by omega) (by simp;omega) _ rfl ?_);intro g cap w1 hown1 hgrow hat hlt1))
            have hE5:=TokOwn.more (t:=(4,[cc],0,(p:Int))) hown1
            have hR6:Rel w w1:=(hR2.alloc _).grown hgrow (fun k hk=>(hE.row.lt k hk).1)
            have HL:=yH (show(ts++[(4,[cc],0,(p:Int))]).length=ts.length+1 by simp)
            go_roundw
            case rel=>exact⟨p+1,some ⟨g,0,none⟩,cap,ts++[(4,[cc],0,(p:Int))],by omega,by go_num,by rw[HL.out],hR6,by rw[HL.out];exact hE5,HN⟩
            case measure=>simp[RowKit.intOf];omega
       ·have hxx:=HX.out
        have hqs2:s.size≤s.size:=by omega
        rcases htk:tokOf x with _|⟨k,n⟩
        ·have HT:=yH htk
         have HN:=yH (HS.out.bad hlt (by rw[←HCC.out];exact hb.1) (by rw[←HCC.out];exact hb.2) HXT.out htk)
         clear hb htk
         go_wp2_with (first
         |(go_at_call 59;(with_reducible refine(rtoken_no x _ _ (yH rfl) HT hx9 _ _ hR2.self).mono ?_);rintro e w3 ⟨⟨t,rfl⟩,h3⟩))
         go_ret3
         exact⟨[],none,0,61,p,rfl,HR.out.trans ((hR2.trans h3).alloc _),ToksAt.nil _ _,.inr (.inr ⟨by rw[EL.out];omega,p,HN.out,rfl,rfl,rfl⟩)⟩
        ·have HT:=yH htk
         have HN:=yH (HS.out.tok hlt (by rw[←HCC.out];exact hb.1) (by rw[←HCC.out];exact hb.2) HXT.out rfl (by rw[HXD.out,HXL.out]) htk)
         rw[HXL.out] at HN
         have hpq:p<s.size:=by
          have:=HN.out.2
          have h1:=HXL.out
          have h2:=tokOf_ne htk
          rcases x with _|⟨a,b⟩
          ·exact absurd rfl h2
          ·simp at h1;omega
         clear hb htk
         go_wp2_with (first
         |(go_at_call 59;(with_reducible refine(rtoken_yes x _ _ k n (yH rfl) HT hx9 _ _ hR2.self).mono ?_);rintro e w3 ⟨rfl,h3⟩;have hE3:=(hE.rel h3).row;have hsz3:w.heap.size≤w3.heap.size:=(hR2.trans h3).size;obtain⟨⟨c0,c1,c2,c3⟩,_⟩:=(Bk.new w3 78 #[yI k,.string (B x),yI n,yI (p:Int)]).four)
         |(at_builtin;(refine wpList_append_lies _ rfl _ _ 71 rfl w.heap.size 78 i0 (.agg #[yI 0,.string ⟨#[]⟩,yI 0,yI 0]) 4 40 Tryz.underlying71 hi hz0 hz1 hz2 rfl (by decide) _ ts.length (cellsOf ts) rfl ((hE3.alloc _).alloc _) ⟨w3.heap.size+1,0,none⟩ 1 1 (cells4 (k,x,n,(p:Int))) rfl rfl (World.news_of_block (Bk.snd w3 #[yI k,.string (B x),yI n,yI (p:Int)] #[yI k,.string (B x),yI n,yI (p:Int)] 78 78)) (cells4_one _) (by decide) (by unfold maxLen;omega) (by omega) (by simp;omega) _ rfl ?_);intro g cap w1 hown1 hgrow hat hlt1))
         have hE5:=TokOwn.more (t:=(k,x,n,(p:Int))) hown1
         have hR6:Rel w w1:=(((hR2.trans h3).alloc _).alloc _).grown hgrow (fun k hk=>(hE3.lt k hk).1)
         have HL:=yH (show(ts++[(k,x,n,(p:Int))]).length=ts.length+1 by simp)
         go_roundw
         case rel=>exact⟨s.size,some ⟨g,0,none⟩,cap,ts++[(k,x,n,(p:Int))],by omega,by go_num,by rw[HL.out],hR6,by rw[HL.out];exact hE5,HN⟩
         case measure=>simp[RowKit.intOf];omega
   ·obtain rfl:p=s.size:=by omega
    have HN:=yH HS.out.done
    go_wp2_with (at_builtin;(refine wpList_append_lies _ rfl _ _ 71 rfl w.heap.size 78 i0 (.agg #[yI 0,.string ⟨#[]⟩,yI 0,yI 0]) 4 40 Tryz.underlying71 hi hz0 hz1 hz2 rfl (by decide) _ ts.length (cellsOf ts) rfl (hE.row.alloc _) ⟨wr.heap.size,0,none⟩ 1 1 (cells4 (5,[],0,(s.size:Int))) rfl rfl (World.news_of_block (Bk.new wr 78 #[yI 5,.string (B []),yI 0,yI (s.size:Int)])) (cells4_one _) (by decide) (by unfold maxLen;omega) (by omega) (by simp;omega) _ rfl ?_);intro g cap w1 hown1 hgrow hat hlt1)
    have hE5:=TokOwn.more (t:=(5,[],0,(s.size:Int))) hown1
    have hR6:Rel w w1:=(hR2.alloc _).grown hgrow (fun k hk=>(hE.row.lt k hk).1)
    have HL:=show(ts++[((5:Int),([]:List UInt8),(0:Int),(s.size:Int))]).length=ts.length+1 by simp
    go_ret3
    exact⟨ts++[(5,[],0,(s.size:Int))],some ⟨g,0,none⟩,cap,0,0,by rw[HL];rfl,HR.out.trans hR6,hE5.toks HL.symm,.inr (.inl ⟨by rw[EL.out];omega,HN.out,rfl,rfl⟩)⟩
end Go.Proofs.YtfekhbeaphpelaaGreatDoor

namespace Go.Proofs.YtfekhbeaphpelaaGreatDoor
open Go.Lib
def lxP(p:Nat)(l:List UInt8):List Tok×Option Nat:=
 match l with
 |[]=>([(5,[],0,(p:Int))],none)
 |c::t=>
  if isBl c then lxP (p+1) t
  else if isSg c then ((4,[c],0,(p:Int))::(lxP (p+1) t).1,(lxP (p+1) t).2)
  else
   match h:tokOf ((c::t).takeWhile isPt) with
   |none=>([],some p)
   |some kn=>((kn.1,(c::t).takeWhile isPt,kn.2,(p:Int))::(lxP (p+((c::t).takeWhile isPt).length) ((c::t).dropWhile isPt)).1,(lxP (p+((c::t).takeWhile isPt).length) ((c::t).dropWhile isPt)).2)
 termination_by l.length
 decreasing_by
  all_goals simp_wf
  all_goals
   have h1:=tokOf_ne (k:=kn.1) (n:=kn.2) h
   have h2:=run_len (c::t)
   have h3:1≤((c::t).takeWhile isPt).length:=by
    rcases hx:(c::t).takeWhile isPt with _|⟨a,b⟩
    ·exact absurd hx h1
    ·simp
   simp at h2 h3⊢
   omega
theorem lxP_nil(p:Nat):lxP p []=([(5,[],0,(p:Int))],none):=by rw[lxP]
theorem lxP_blank(p:Nat)(c:UInt8)(t:List UInt8)(h:isBl c=true):lxP p (c::t)=lxP (p+1) t:=by rw[lxP,if_pos h]
theorem lxP_sign(p:Nat)(c:UInt8)(t:List UInt8)(h:isBl c=false)(h':isSg c=true):lxP p (c::t)=((4,[c],0,(p:Int))::(lxP (p+1) t).1,(lxP (p+1) t).2):=by
 rw[lxP,if_neg (by rw[h];simp),if_pos h']
theorem lxP_bad(p:Nat)(c:UInt8)(t:List UInt8)(h:isBl c=false)(h':isSg c=false)(hn:tokOf ((c::t).takeWhile isPt)=none):lxP p (c::t)=([],some p):=by
 rw[lxP,if_neg (by rw[h];simp),if_neg (by rw[h'];simp)]
 split
 ·rfl
 ·rename_i h2;rw[hn] at h2;cases h2
theorem lxP_tok(p:Nat)(c:UInt8)(t:List UInt8)(k n:Int)(h:isBl c=false)(h':isSg c=false)(hn:tokOf ((c::t).takeWhile isPt)=some (k,n)):
  lxP p (c::t)=((k,(c::t).takeWhile isPt,n,(p:Int))::(lxP (p+((c::t).takeWhile isPt).length) ((c::t).dropWhile isPt)).1,(lxP (p+((c::t).takeWhile isPt).length) ((c::t).dropWhile isPt)).2):=by
 rw[lxP,if_neg (by rw[h];simp),if_neg (by rw[h'];simp)]
 split
 ·rename_i h2;rw[hn] at h2;cases h2
 ·rename_i kn h2;rw[hn] at h2;cases h2;rfl
def outP(r:List Tok×Option Nat):Scan:=match r.2 with
 |none=> .ok r.1
 |some k=> .error k
theorem lx_outP:∀(m:Nat)(s:List UInt8),s.length≤m→∀p:Nat,lx p s=outP (lxP p s):=by
 intro m
 induction m with
 |zero=>
  intro s hs p
  obtain rfl:s=[]:=List.length_eq_zero_iff.1 (by omega)
  rw[lx_nil,lxP_nil];rfl
 |succ m ih=>
  intro s hs p
  cases s with
  |nil=>rw[lx_nil,lxP_nil];rfl
  |cons c t=>
   simp only[List.length_cons] at hs
   have hp:∀(x:Tok)(r:List Tok×Option Nat),pre [x] (outP r)=outP (x::r.1,r.2):=fun x r=>by
    obtain⟨a,b⟩:=r
    cases b<;>rfl
   cases hb:isBl c
   ·cases hg:isSg c
    ·cases hn:tokOf ((c::t).takeWhile isPt) with
     |none=>rw[lx_bad _ c t hb hg hn,lxP_bad _ c t hb hg hn];rfl
     |some kn=>
      obtain⟨k,j⟩:=kn
      have hx:=tokOf_ne hn
      have h2:=run_len (c::t)
      have h3:1≤((c::t).takeWhile isPt).length:=by
       rcases hx':(c::t).takeWhile isPt with _|⟨a,b⟩
       ·exact absurd hx' hx
       ·simp
      simp only[List.length_cons] at h2
      rw[lx_tok _ c t k j hb hg hn,lxP_tok _ c t k j hb hg hn,ih _ (by omega),hp]
    ·rw[lx_sign _ c t hb hg,lxP_sign _ c t hb hg,ih t (by omega),hp]
   ·rw[lx_blank _ c t hb,lxP_blank _ c t hb,ih t (by omega)]
def AtP(l:List UInt8)(p:Nat)(ts:List Tok):Prop:=lxP 0 l=(ts++(lxP p (l.drop p)).1,(lxP p (l.drop p)).2)∧ts.length≤p
theorem AtP.start(l:List UInt8):AtP l 0 []:=⟨rfl,Nat.le_refl _⟩
theorem AtP.blank{l:List UInt8}{p:Nat}{ts:List Tok}{c:UInt8}{t:List UInt8}(h:AtP l p ts)(hp:l.drop p=c::t)(hb:isBl c=true):AtP l (p+1) ts:=by
 have e:l.drop (p+1)=t:=by rw[←List.drop_drop,hp];rfl
 exact⟨by rw[h.1,hp,lxP_blank _ _ _ hb,e],by have:=h.2;omega⟩
theorem AtP.sign{l:List UInt8}{p:Nat}{ts:List Tok}{c:UInt8}{t:List UInt8}(h:AtP l p ts)(hp:l.drop p=c::t)(hb:isSg c=true):AtP l (p+1) (ts++[(4,[c],0,(p:Int))])∧∃r,(lxP 0 l).1=ts++(4,[c],0,(p:Int))::r:=by
 have e:l.drop (p+1)=t:=by rw[←List.drop_drop,hp];rfl
 refine⟨⟨by rw[h.1,hp,lxP_sign _ _ _ (sg_not hb).1 hb,e];simp,by have:=h.2;simp;omega⟩,(lxP (p+1) t).1, ?_⟩
 rw[h.1,hp,lxP_sign _ _ _ (sg_not hb).1 hb]
theorem AtP.tok{l:List UInt8}{p e:Nat}{ts:List Tok}{c:UInt8}{t x:List UInt8}{k n:Int}(h:AtP l p ts)(hp:l.drop p=c::t)(hb:isBl c=false)(hg:isSg c=false)
  (hx:(l.drop p).takeWhile isPt=x) (hm:p+x.length=e) (hd:(l.drop p).dropWhile isPt=l.drop e) (ht:tokOf x=some (k,n)):AtP l e (ts++[(k,x,n,(p:Int))])∧∃r,(lxP 0 l).1=ts++(k,x,n,(p:Int))::r:=by
 have hm1:1≤x.length:=by
  have:=tokOf_ne ht
  rcases x with _|⟨a,b⟩
  ·exact absurd rfl this
  ·simp
 rw[hp] at hx hd
 have q:=lxP_tok p c t k n hb hg (by rw[hx];exact ht)
 rw[hx,hd,hm] at q
 refine⟨⟨by rw[h.1,hp,q];simp,by have:=h.2;simp;omega⟩,(lxP e (l.drop e)).1, ?_⟩
 rw[h.1,hp,q]
theorem AtP.bad{l:List UInt8}{p:Nat}{ts:List Tok}{c:UInt8}{t x:List UInt8}(h:AtP l p ts)(hp:l.drop p=c::t)(hb:isBl c=false)(hg:isSg c=false)
  (hx:(l.drop p).takeWhile isPt=x) (ht:tokOf x=none):lxP 0 l=(ts,some p):=by
 rw[hp] at hx
 rw[h.1,hp,lxP_bad _ _ _ hb hg (by rw[hx];exact ht)];simp
theorem AtP.done{l:List UInt8}{ts:List Tok}(h:AtP l l.length ts):lxP 0 l=(ts++[(5,[],0,(l.length:Int))],none):=by
 rw[h.1,List.drop_length,lxP_nil]
def pcOf(l:List UInt8):List UInt8:=if l.takeWhile isPt=[] then l.take 1 else l.takeWhile isPt
def told:List UInt8→Option (Int×Int)
 |[]=>none
 |c::t=>if isSg c then some (4,0) else tokOf (c::t)
theorem told_sign{c:UInt8}{t:List UInt8}(h:isSg c=true):told (c::t)=some (4,0):=by simp only[told];rw[if_pos h]
theorem told_not{c:UInt8}{t:List UInt8}(h:isSg c=false):told (c::t)=tokOf (c::t):=by simp only[told];rw[if_neg (by rw[h];simp)]
theorem take_pt{c:UInt8}{t:List UInt8}(h:isPt c=true):∃y,(c::t).takeWhile isPt=c::y:=⟨t.takeWhile isPt,by rw[List.takeWhile_cons,h];rfl⟩
theorem take_not{c:UInt8}{t:List UInt8}(h:isPt c=false):(c::t).takeWhile isPt=[]:=by rw[List.takeWhile_cons,h];rfl
theorem pc_pt{c:UInt8}{t:List UInt8}(h:isPt c=true):pcOf (c::t)=(c::t).takeWhile isPt:=by
 obtain⟨y,e⟩:=take_pt (t:=t) h
 unfold pcOf;rw[e,if_neg (by simp)]
theorem pc_not{c:UInt8}{t:List UInt8}(h:isPt c=false):pcOf (c::t)=[c]:=by
 unfold pcOf;rw[take_not h,if_pos rfl];rfl
theorem pc_head(c:UInt8)(t:List UInt8):∃y,pcOf (c::t)=c::y:=by
 cases h:isPt c
 ·exact⟨[],pc_not h⟩
 ·rw[pc_pt h];exact take_pt h
theorem pc_len_le(l:List UInt8):(pcOf l).length≤l.length:=by
 unfold pcOf
 split
 ·exact List.length_take_le' _ _
 ·exact(List.takeWhile_sublist _).length_le
theorem pc_max(c:UInt8)(t:List UInt8):pcOf (c::t)=(c::t).take (max ((c::t).takeWhile isPt).length 1)∧(pcOf (c::t)).length=max ((c::t).takeWhile isPt).length 1:=by
 cases h:isPt c
 ·rw[pc_not h,take_not h];exact⟨rfl,rfl⟩
 ·obtain⟨y,e⟩:=take_pt (t:=t) h
  have e2:(c::t).takeWhile isPt++(c::t).dropWhile isPt=c::t:=List.takeWhile_append_dropWhile
  have m:max ((c::t).takeWhile isPt).length 1=((c::t).takeWhile isPt).length:=by rw[e];simp
  rw[pc_pt h,m]
  refine⟨?_,rfl⟩
  have e3:(c::t).take ((c::t).takeWhile isPt).length=((c::t).takeWhile isPt++(c::t).dropWhile isPt).take ((c::t).takeWhile isPt).length:=by rw[e2]
  rw[e3,List.take_left]
theorem tok_char{c:UInt8}(h:isPt c=false):tokOf [c]=none:=by
 simp only[isPt,Bool.or_eq_false_iff] at h
 unfold tokOf
 rw[word_head (c:=c) rfl h.1.1,name_head (c:=c) rfl h.1.1,cnt_not (l:=[c]) (by simp[allD,h.1.2]),ref_short (l:=[c]) (by unfold body;split<;>simp),if_neg (by simp),if_neg (by omega)]
theorem AtP.piece{l:List UInt8}{p:Nat}{ts:List Tok}{c:UInt8}{t:List UInt8}(h:AtP l p ts)(hp:l.drop p=c::t)(hb:isBl c=false):
  (∃k n,told (pcOf (c::t))=some (k,n)∧AtP l (p+(pcOf (c::t)).length) (ts++[(k,pcOf (c::t),n,(p:Int))])∧∃r,(lxP 0 l).1=ts++(k,pcOf (c::t),n,(p:Int))::r)∨
  (told (pcOf (c::t))=none∧lxP 0 l=(ts,some p)):=by
 cases hg:isSg c
 ·cases hpt:isPt c
  ·refine .inr ⟨?_,h.bad hp hb hg (x:=[]) (by rw[hp];exact take_not hpt) tokOf_nil⟩
   rw[pc_not hpt,told_not hg];exact tok_char hpt
  ·obtain⟨y,e⟩:=take_pt (t:=t) hpt
   have e2:told (pcOf (c::t))=tokOf (pcOf (c::t)):=by rw[pc_pt hpt,e];exact told_not hg
   rw[e2,pc_pt hpt]
   cases ht:tokOf ((c::t).takeWhile isPt) with
   |none=>exact .inr ⟨rfl,h.bad hp hb hg (by rw[hp]) ht⟩
   |some kn=>
    obtain⟨k,n⟩:=kn
    refine .inl ⟨k,n,rfl,h.tok hp hb hg (by rw[hp]) rfl ?_ ht⟩
    have e3:(c::t).takeWhile isPt++(c::t).dropWhile isPt=c::t:=List.takeWhile_append_dropWhile
    have e4:l.drop (p+((c::t).takeWhile isPt).length)=((c::t).takeWhile isPt++(c::t).dropWhile isPt).drop ((c::t).takeWhile isPt).length:=by rw[←List.drop_drop,hp,e3]
    rw[hp,e4,List.drop_left]
 ·have hpt:=(sg_not hg).2
  rw[pc_not hpt]
  obtain⟨a,b⟩:=h.sign hp hg
  exact .inl ⟨4,0,told_sign hg,a,b⟩
end Go.Proofs.YtfekhbeaphpelaaGreatDoor

namespace Go.Proofs
open Go.Shelf
def Tryz.lays103_ren:Go.Shelf.Ren:=⟨fun|103=>159|210=>170|206=>177|n=>n,fun|9=>9|4=>4|24=>187|3=>3|n=>n,fun|n=>n⟩
theorem Tryz.lays103:Go.Proofs.Lays.n103 Tryz.prog Tryz.lays103_ren:={
 mixed:=by kernel_rfl
 f103:=Tryz.func159.trans (congrArg some (by kernel_rfl))
 f206:=Tryz.func177.trans (congrArg some (by kernel_rfl))
 f210:=Tryz.func170.trans (congrArg some (by kernel_rfl))
 t3:=Tryz.underlying3
 a3:=Tryz.isAgg3
 z3:=Tryz.sizeOf3
 v3:=Tryz.zeroValue3
 t4:=Tryz.underlying4
 a4:=Tryz.isAgg4
 z4:=Tryz.sizeOf4
 v4:=Tryz.zeroValue4
 t9:=Tryz.underlying9
 a9:=Tryz.isAgg9
 z9:=Tryz.sizeOf9
 v9:=Tryz.zeroValue9
 t24:=Tryz.underlying187
 a24:=Tryz.isAgg187
 z24:=Tryz.sizeOf187
 v24:=Tryz.zeroValue187}
open Go.RowKit in
theorem Tryz.strings_CutPrefix(s p:ByteArray)(w:World):
  Calls Tryz.prog 159 #[.string s,.string p] w fun e w'=>e= .returned (.tuple #[.string ⟨(Lib.trimPrefix s.data.toList p.data.toList).toArray⟩,.bool (Lib.hasPrefix s.data.toList p.data.toList)])∧w'=w:=Any.strings_CutPrefix Tryz.lays103 s p w
def Tryz.laysM171_ren:Go.Shelf.Ren:=⟨fun|171=>141|243=>165|246=>173|283=>179|284=>180|285=>181|286=>182|129=>195|317=>194|318=>196|319=>197|320=>198|337=>204|338=>205|n=>n,fun|3=>3|9=>9|2=>2|4=>4|171=>203|0=>0|53=>204|37=>98|5=>5|173=>207|212=>213|51=>214|20=>20|213=>215|46=>212|232=>225|233=>226|n=>n,fun|17=>1|18=>2|19=>3|n=>n⟩
theorem Tryz.laysM171:Go.Proofs.LaysM.n171 Tryz.prog Tryz.laysM171_ren:={
 mixed:=by kernel_rfl
 f129:=Tryz.func195.trans (congrArg some (by kernel_rfl))
 f171:=Tryz.func141.trans (congrArg some (by kernel_rfl))
 f243:=Tryz.func165.trans (congrArg some (by kernel_rfl))
 f246:=Tryz.func173.trans (congrArg some (by kernel_rfl))
 f283:=Tryz.func179.trans (congrArg some (by kernel_rfl))
 f284:=Tryz.func180.trans (congrArg some (by kernel_rfl))
 f285:=Tryz.func181.trans (congrArg some (by kernel_rfl))
 f286:=Tryz.func182.trans (congrArg some (by kernel_rfl))
 f317:=Tryz.func194.trans (congrArg some (by kernel_rfl))
 f318:=Tryz.func196.trans (congrArg some (by kernel_rfl))
 f319:=Tryz.func197.trans (congrArg some (by kernel_rfl))
 f320:=Tryz.func198.trans (congrArg some (by kernel_rfl))
 f337:=Tryz.func204.trans (congrArg some (by kernel_rfl))
 f338:=Tryz.func205.trans (congrArg some (by kernel_rfl))
 t0:=Tryz.underlying0
 a0:=Tryz.isAgg0
 z0:=Tryz.sizeOf0
 v0:=Tryz.zeroValue0
 t2:=Tryz.underlying2
 a2:=Tryz.isAgg2
 z2:=Tryz.sizeOf2
 v2:=Tryz.zeroValue2
 t3:=Tryz.underlying3
 a3:=Tryz.isAgg3
 z3:=Tryz.sizeOf3
 v3:=Tryz.zeroValue3
 t4:=Tryz.underlying4
 a4:=Tryz.isAgg4
 z4:=Tryz.sizeOf4
 v4:=Tryz.zeroValue4
 t5:=Tryz.underlying5
 a5:=Tryz.isAgg5
 z5:=Tryz.sizeOf5
 v5:=Tryz.zeroValue5
 t9:=Tryz.underlying9
 a9:=Tryz.isAgg9
 z9:=Tryz.sizeOf9
 v9:=Tryz.zeroValue9
 t20:=Tryz.underlying20
 a20:=Tryz.isAgg20
 z20:=Tryz.sizeOf20
 v20:=Tryz.zeroValue20
 t37:=Tryz.underlying98
 a37:=Tryz.isAgg98
 z37:=Tryz.sizeOf98
 v37:=Tryz.zeroValue98
 t46:=Tryz.underlying212
 a46:=Tryz.isAgg212
 z46:=Tryz.sizeOf212
 v46:=Tryz.zeroValue212
 t51:=Tryz.underlying214
 a51:=Tryz.isAgg214
 z51:=Tryz.sizeOf214
 v51:=Tryz.zeroValue214
 t53:=Tryz.underlying204
 a53:=Tryz.isAgg204
 z53:=Tryz.sizeOf204
 v53:=Tryz.zeroValue204
 t171:=Tryz.underlying203
 a171:=Tryz.isAgg203
 z171:=Tryz.sizeOf203
 v171:=Tryz.zeroValue203
 t173:=Tryz.underlying207
 a173:=Tryz.isAgg207
 z173:=Tryz.sizeOf207
 v173:=Tryz.zeroValue207
 t212:=Tryz.underlying213
 a212:=Tryz.isAgg213
 z212:=Tryz.sizeOf213
 v212:=Tryz.zeroValue213
 t213:=Tryz.underlying215
 a213:=Tryz.isAgg215
 z213:=Tryz.sizeOf215
 t232:=Tryz.underlying225
 a232:=Tryz.isAgg225
 z232:=Tryz.sizeOf225
 v232:=Tryz.zeroValue225
 t233:=Tryz.underlying226
 a233:=Tryz.isAgg226
 z233:=Tryz.sizeOf226
 v233:=Tryz.zeroValue226
 g17:=by kernel_rfl
 g18:=by kernel_rfl
 g19:=by kernel_rfl
 i0:=by kernel_rfl
 i2:=by kernel_rfl
 i3:=by kernel_rfl
 i4:=by kernel_rfl
 i5:=by kernel_rfl
 i9:=by kernel_rfl
 i20:=by kernel_rfl
 i37:=by kernel_rfl
 i46:=by kernel_rfl
 i51:=by kernel_rfl
 i53:=by kernel_rfl
 i171:=by kernel_rfl
 i173:=by kernel_rfl
 i212:=by kernel_rfl
 i232:=by kernel_rfl
 i233:=by kernel_rfl
 m17:=by kernel_rfl
 m18:=by kernel_rfl
 m19:=by kernel_rfl}
open Go.RowKit Go.Sort Go.Lib in
theorem Tryz.strconv_Itoa(n:Int)(h0: -9223372036854775808≤n)(h1:n≤9223372036854775807)(w:World)(htab:Lib.TabIs Tryz.prog w "internal/strconv.uint64pow10" .u64 Lib.pow10Tab):
  Calls Tryz.prog 141 #[.int .i64 n] w fun e w'=>e= .returned (.string ⟨(Lib.itoa n).toArray⟩)∧∃k os,w'=grow (w.drewN k) os:=Any.strconv_Itoa Tryz.laysM171 n h0 h1 w htab
def Tryz.laysM316_ren:Go.Shelf.Ren:=⟨fun|316=>111|n=>n,fun|9=>9|3=>3|4=>4|37=>98|0=>0|127=>158|5=>5|n=>n,fun|n=>n⟩
theorem Tryz.laysM316:Go.Proofs.LaysM.n316 Tryz.prog Tryz.laysM316_ren:={
 mixed:=by kernel_rfl
 f316:=Tryz.func111.trans (congrArg some (by kernel_rfl))
 t0:=Tryz.underlying0
 a0:=Tryz.isAgg0
 z0:=Tryz.sizeOf0
 v0:=Tryz.zeroValue0
 t3:=Tryz.underlying3
 a3:=Tryz.isAgg3
 z3:=Tryz.sizeOf3
 v3:=Tryz.zeroValue3
 t4:=Tryz.underlying4
 a4:=Tryz.isAgg4
 z4:=Tryz.sizeOf4
 v4:=Tryz.zeroValue4
 t9:=Tryz.underlying9
 a9:=Tryz.isAgg9
 z9:=Tryz.sizeOf9
 v9:=Tryz.zeroValue9
 t37:=Tryz.underlying98
 a37:=Tryz.isAgg98
 z37:=Tryz.sizeOf98
 v37:=Tryz.zeroValue98
 t127:=Tryz.underlying158
 a127:=Tryz.isAgg158
 z127:=Tryz.sizeOf158
 v127:=Tryz.zeroValue158
 t5:=Tryz.underlying5
 a5:=Tryz.isAgg5
 z5:=Tryz.sizeOf5
 v5:=Tryz.zeroValue5
 i0:=by kernel_rfl
 i3:=by kernel_rfl
 i4:=by kernel_rfl
 i5:=by kernel_rfl
 i9:=by kernel_rfl
 i37:=by kernel_rfl
 i127:=by kernel_rfl}
open Go.RowKit in
theorem Tryz.stringslite_Clone(s:ByteArray)(w:World)(hlim:s.size≤281474976710656):
  Calls Tryz.prog 111 #[.string s] w fun e w'=>e= .returned (.string s)∧Below w.heap.size w w':=Any.stringslite_Clone Tryz.laysM316 s w hlim
def Tryz.lays219_ren:Go.Shelf.Ren:=⟨fun|219=>178|217=>190|225=>191|224=>192|267=>193|266=>202|314=>203|n=>n,fun|9=>9|3=>3|4=>4|5=>5|46=>212|146=>221|51=>214|n=>n,fun|1=>0|n=>n⟩
theorem Tryz.lays219:Go.Proofs.Lays.n219 Tryz.prog Tryz.lays219_ren:={
 mixed:=by kernel_rfl
 f217:=Tryz.func190.trans (congrArg some (by kernel_rfl))
 f219:=Tryz.func178.trans (congrArg some (by kernel_rfl))
 f224:=Tryz.func192.trans (congrArg some (by kernel_rfl))
 f225:=Tryz.func191.trans (congrArg some (by kernel_rfl))
 f266:=Tryz.func202.trans (congrArg some (by kernel_rfl))
 f267:=Tryz.func193.trans (congrArg some (by kernel_rfl))
 f314:=Tryz.func203.trans (congrArg some (by kernel_rfl))
 t3:=Tryz.underlying3
 a3:=Tryz.isAgg3
 z3:=Tryz.sizeOf3
 v3:=Tryz.zeroValue3
 t4:=Tryz.underlying4
 a4:=Tryz.isAgg4
 z4:=Tryz.sizeOf4
 v4:=Tryz.zeroValue4
 t5:=Tryz.underlying5
 a5:=Tryz.isAgg5
 z5:=Tryz.sizeOf5
 v5:=Tryz.zeroValue5
 t9:=Tryz.underlying9
 a9:=Tryz.isAgg9
 z9:=Tryz.sizeOf9
 v9:=Tryz.zeroValue9
 t46:=Tryz.underlying212
 a46:=Tryz.isAgg212
 z46:=Tryz.sizeOf212
 v46:=Tryz.zeroValue212
 t51:=Tryz.underlying214
 a51:=Tryz.isAgg214
 z51:=Tryz.sizeOf214
 v51:=Tryz.zeroValue214
 t146:=Tryz.underlying221
 a146:=Tryz.isAgg221
 z146:=Tryz.sizeOf221
 v146:=Tryz.zeroValue221
 g1:=by kernel_rfl}
open Go.RowKit Go.Lib in
theorem Tryz.stringslite_Index_one(s:ByteArray)(c:UInt8)(w:World):
  Calls Tryz.prog 178 #[.string s,.string ⟨#[c]⟩] w fun e w'=>e= .returned (.int .i64 (Lib.indexByte s.data.toList c))∧w'=w:=Any.stringslite_Index_one Tryz.lays219 s c w
def Tryz.lays189_ren:Go.Shelf.Ren:=⟨fun|189=>199|125=>207|257=>206|128=>217|129=>195|294=>208|295=>209|296=>210|297=>211|298=>212|299=>213|216=>214|300=>215|301=>216|328=>218|329=>219|330=>220|331=>221|332=>222|215=>223|343=>224|n=>n,fun|28=>23|3=>3|46=>212|0=>0|51=>214|53=>204|4=>4|183=>229|182=>228|131=>37|5=>5|9=>9|218=>235|222=>239|228=>241|229=>242|n=>n,fun|n=>n⟩
theorem Tryz.lays189:Go.Proofs.Lays.n189 Tryz.prog Tryz.lays189_ren:={
 mixed:=by kernel_rfl
 f125:=Tryz.func207.trans (congrArg some (by kernel_rfl))
 f128:=Tryz.func217.trans (congrArg some (by kernel_rfl))
 f129:=Tryz.func195.trans (congrArg some (by kernel_rfl))
 f189:=Tryz.func199.trans (congrArg some (by kernel_rfl))
 f215:=Tryz.func223.trans (congrArg some (by kernel_rfl))
 f216:=Tryz.func214.trans (congrArg some (by kernel_rfl))
 f257:=Tryz.func206.trans (congrArg some (by kernel_rfl))
 f294:=Tryz.func208.trans (congrArg some (by kernel_rfl))
 f295:=Tryz.func209.trans (congrArg some (by kernel_rfl))
 f296:=Tryz.func210.trans (congrArg some (by kernel_rfl))
 f297:=Tryz.func211.trans (congrArg some (by kernel_rfl))
 f298:=Tryz.func212.trans (congrArg some (by kernel_rfl))
 f299:=Tryz.func213.trans (congrArg some (by kernel_rfl))
 f300:=Tryz.func215.trans (congrArg some (by kernel_rfl))
 f301:=Tryz.func216.trans (congrArg some (by kernel_rfl))
 f328:=Tryz.func218.trans (congrArg some (by kernel_rfl))
 f329:=Tryz.func219.trans (congrArg some (by kernel_rfl))
 f330:=Tryz.func220.trans (congrArg some (by kernel_rfl))
 f331:=Tryz.func221.trans (congrArg some (by kernel_rfl))
 f332:=Tryz.func222.trans (congrArg some (by kernel_rfl))
 f343:=Tryz.func224.trans (congrArg some (by kernel_rfl))
 t0:=Tryz.underlying0
 a0:=Tryz.isAgg0
 z0:=Tryz.sizeOf0
 v0:=Tryz.zeroValue0
 t3:=Tryz.underlying3
 a3:=Tryz.isAgg3
 z3:=Tryz.sizeOf3
 v3:=Tryz.zeroValue3
 t4:=Tryz.underlying4
 a4:=Tryz.isAgg4
 z4:=Tryz.sizeOf4
 v4:=Tryz.zeroValue4
 t5:=Tryz.underlying5
 a5:=Tryz.isAgg5
 z5:=Tryz.sizeOf5
 v5:=Tryz.zeroValue5
 t9:=Tryz.underlying9
 a9:=Tryz.isAgg9
 z9:=Tryz.sizeOf9
 v9:=Tryz.zeroValue9
 t28:=Tryz.underlying23
 a28:=Tryz.isAgg23
 z28:=Tryz.sizeOf23
 v28:=Tryz.zeroValue23
 t46:=Tryz.underlying212
 a46:=Tryz.isAgg212
 z46:=Tryz.sizeOf212
 v46:=Tryz.zeroValue212
 t51:=Tryz.underlying214
 a51:=Tryz.isAgg214
 z51:=Tryz.sizeOf214
 v51:=Tryz.zeroValue214
 t53:=Tryz.underlying204
 a53:=Tryz.isAgg204
 z53:=Tryz.sizeOf204
 v53:=Tryz.zeroValue204
 t131:=Tryz.underlying37
 a131:=Tryz.isAgg37
 z131:=Tryz.sizeOf37
 v131:=Tryz.zeroValue37
 t182:=Tryz.underlying228
 a182:=Tryz.isAgg228
 z182:=Tryz.sizeOf228
 v182:=Tryz.zeroValue228
 t183:=Tryz.underlying229
 a183:=Tryz.isAgg229
 z183:=Tryz.sizeOf229
 v183:=Tryz.zeroValue229
 t218:=Tryz.underlying235
 a218:=Tryz.isAgg235
 z218:=Tryz.sizeOf235
 v218:=Tryz.zeroValue235
 t222:=Tryz.underlying239
 a222:=Tryz.isAgg239
 z222:=Tryz.sizeOf239
 v222:=Tryz.zeroValue239
 t228:=Tryz.underlying241
 a228:=Tryz.isAgg241
 z228:=Tryz.sizeOf241
 v228:=Tryz.zeroValue241
 t229:=Tryz.underlying242
 a229:=Tryz.isAgg242
 z229:=Tryz.sizeOf242
 v229:=Tryz.zeroValue242}
open Go.Sort Go.RowKit in
theorem Tryz.slices_Sort_int(blk off cap:Nat)(zs:List Int)(w:World)(hH:Holds (Value.int .i64) w blk off zs.toArray)(hblk:blk<w.heap.size)(hsz:zs.length<4611686018427387904):
  Calls Tryz.prog 199 #[.slice (some ⟨blk,off,none⟩) zs.length cap] w fun e w'=>
   e= .returned (.tuple #[])∧∃n os,w'=grow (putRow (Value.int .i64) (Sort.ahead w n) blk off (zs.mergeSort fun x y=>decide (x≤y)).toArray) os:=Any.slices_Sort_int Tryz.lays189 blk off cap zs w hH hblk hsz
end Go.Proofs

namespace Go.Proofs.YtfekhbeaphpelaaGreatDoor
open Go.RowKit Go.Lib
def wit(a l h:Int):Bool:=decide (l≤a∧a≤h)
theorem within_any(a l h:Int)(w:World):
  Calls Tryz.prog 164 #[yI a,yI l,yI h] w fun e w'=>e= .returned (.bool (wit a l h))∧w=w':=by
 by_cases h1:l≤a<;>by_cases h2:a≤h
 all_goals
  go_enter Tryz.func164,Tryz.ntmps164
  go_wp2
  all_goals
   go_ret
   exact⟨ret_bool (by unfold wit;rw[eq_comm];first|exact decide_eq_true (by omega)|exact decide_eq_false (by omega)),rfl⟩
theorem right_any(a:Int)(w:World):
  Calls Tryz.prog 140 #[yI a] w fun e w'=>e= .returned (.bool (rt a))∧w=w':=by
 by_cases h1: -1000000000000≤a<;>by_cases h2:a≤1000000000000
 all_goals
  go_enter Tryz.func140,Tryz.ntmps140
  go_wp2
  all_goals
   go_ret
   exact⟨ret_bool (by unfold rt;rw[eq_comm];first|exact decide_eq_true (by omega)|exact decide_eq_false (by omega)),rfl⟩
theorem digs_no(most acc:Int)(c:UInt8)(t:List UInt8)(h:c.toNat<48∨57<c.toNat):digs most (c::t) acc= -1:=by
 unfold digs
 rw[if_neg]
 simp[isD];omega
theorem digs_big(most acc:Int)(c:UInt8)(t:List UInt8)(h:48≤c.toNat)(h':c.toNat≤57)(hm:most<acc*10+((c.toNat:Int)-48)):digs most (c::t) acc= -1:=by
 unfold digs
 rw[if_pos (isD_iff.2 ⟨h,h'⟩),if_pos hm]
theorem digs_go(most acc:Int)(c:UInt8)(t:List UInt8)(h:48≤c.toNat)(h':c.toNat≤57)(hm:acc*10+((c.toNat:Int)-48)≤most):digs most (c::t) acc=digs most t (acc*10+((c.toNat:Int)-48)):=by
 conv=>lhs;unfold digs
 rw[if_pos (isD_iff.2 ⟨h,h'⟩),if_neg (by omega)]
theorem digits_prog(s:ByteArray)(most:Int)(hm:most≤1000000000000)(w0 w:World)(hr:Rel w0 w):
  Calls Tryz.prog 158 #[.string s,yI most] w fun e w'=>e= .returned (yI (digs most s.data.toList 0))∧Rel w0 w':=by
 go_enter Tryz.func158,Tryz.ntmps158
 go_wp2
 go_loopw [5] (fun n w'=>∃(pos:Nat)(acc:Int),w'=w.iter s pos∧n=yI acc∧0≤acc∧acc≤1000000000000∧Hid (digs most (s.data.toList.drop pos) acc=digs most s.data.toList 0)) (fun _ w'=>s.size-w'.iterPos w.heap.size)
 case atStart=>exact⟨0,0,rfl,rfl,by omega,by omega,yH rfl⟩
 case round=>
  obtain⟨pos,acc,rfl,rfl,h0,h1,HH⟩:=hrel
  by_cases hp:pos<s.size
  ·by_cases ha:(s[pos]'hp).toNat<128
   ·obtain⟨c,hc⟩:∃c,c=s[pos]'hp:=⟨_,rfl⟩
    have hnx:∀ty,(Instr.next (.pointer (some ⟨w.heap.size,0,none⟩)) true ty).run Tryz.prog (w.iter s pos)= .ok (.tuple #[.bool true,yI pos,.int .i32 (c.toNat:Int)]) (w.iter s (pos+1)):=fun ty=>by rw[hc];exact run_next_ascii w s pos ty hp ha
    have HD:=yH (drop_step s pos hp)
    rw[←hc] at HD
    have ha':c.toNat<128:=by rw[hc];exact ha
    clear hc
    generalize hk:c.toNat=k at hnx ha'
    have HK:=yH hk
    clear hk ha
    by_cases g1:k<48
    ·go_wp2
     go_ret
     exact⟨ret_int (by rw[←HH.out,HD.out,digs_no _ _ _ _ (.inl (by rw[HK.out];exact g1))]),hr.alloc _⟩
    ·by_cases g2:57<k
     ·go_wp2
      go_ret
      exact⟨ret_int (by rw[←HH.out,HD.out,digs_no _ _ _ _ (.inr (by rw[HK.out];exact g2))]),hr.alloc _⟩
     ·by_cases g3:most<acc*10+((k:Int)-48)
      ·go_wp2
       go_ret
       exact⟨ret_int (by rw[←HH.out,HD.out,digs_big _ _ _ _ (by rw[HK.out];omega) (by rw[HK.out];omega) (by rw[HK.out];exact g3)]),hr.alloc _⟩
      ·go_wp2
       go_roundw
       case rel=>
           exact⟨pos+1,acc*10+((k:Int)-48),rfl,rfl,by omega,by omega,yH (by rw[←HH.out,HD.out,digs_go _ _ _ _ (by rw[HK.out];omega) (by rw[HK.out];omega) (by rw[HK.out];omega),HK.out])⟩
       case measure=>
           simp
           omega
   ·have hh:=(decode_high s pos hp (by omega)).1
    have HN:=yH (digs_no most acc (s[pos]'hp) (s.data.toList.drop (pos+1)) (.inr (by omega)))
    have HD:=yH (drop_step s pos hp)
    have hnx:∀ty,(Instr.next (.pointer (some ⟨w.heap.size,0,none⟩)) true ty).run Tryz.prog (w.iter s pos)=_:=fun ty=>run_next_any w s pos ty hp
    generalize (Utf8.decode s pos).1=k at hh hnx
    clear ha
    have hh2: ¬k<48:=by omega
    have hh3:57<k:=by omega
    go_wp2
    go_ret
    exact⟨ret_int (by rw[←HH.out,HD.out,HN.out]),hr.alloc _⟩
  ·have hnx:∀ty,(Instr.next (.pointer (some ⟨w.heap.size,0,none⟩)) true ty).run Tryz.prog (w.iter s pos)=_:=fun ty=>run_next_end w s pos ty hp
   have HD:=yH (drop_end s pos hp)
   go_wp2
   go_ret
   exact⟨ret_int (by rw[←HH.out,HD.out];rfl),hr.alloc _⟩
theorem cnt_digs(c:UInt8)(t:List UInt8)(most:Int)(h:t.length=0∨c.toNat≠48):digs (min most 1000000000000) (B (c::t)).data.toList 0=cnt (c::t) most:=by
 rw[B_list]
 refine cnt_prog _ _ rfl ?_
 rcases h with h|h
 ·left;simp[h]
 ·right;intro e;simp at e;exact h (by rw[e];rfl)
theorem count_list(l:List UInt8)(most:Int)(hl:l.length≤9223372036854775807)(w0 w:World)(hr:Rel w0 w):
  Calls Tryz.prog 131 #[.string (B l),yI most] w fun e w'=>e= .returned (yI (cnt l most))∧Rel w0 w':=by
 cases l with
 |nil=>
  have HT:=B_toList []
  go_enter Tryz.func131,Tryz.ntmps131
  go_wp2_with (fail)
  go_ret
  exact⟨ret_int (cnt_no (.inl rfl)).symm,hr⟩
 |cons c t=>
  have HT:=B_toList (c::t)
  have HB:=B_size (c::t)
  have H0:=B_zero c t
  go_enter Tryz.func131,Tryz.ntmps131
  go_wp2_with ((go_at_call 158;(with_reducible refine(digits_prog _ _ (by omega) _ _ hr).mono ?_);rintro e w' ⟨rfl,hr'⟩))
  ·have h1:1<(t.length:Int)+1:=by assumption
   have h2:((c.toNat:Int)==48)=true:=by assumption
   have h3:c=48:=UInt8.toNat_inj.1 (by rw[show(48:UInt8).toNat=48 from rfl];simp only[beq_iff_eq] at h2;omega)
   go_ret
   exact⟨ret_int (cnt_no (.inr ⟨by simp;omega,by rw[h3];rfl⟩)).symm,hr⟩
  ·have h2:((c.toNat:Int)==48)=false:=by assumption
   go_ret
   exact⟨ret_int (cnt_digs c t most (.inr (by simp only[beq_eq_false_iff_ne] at h2;omega))),by assumption⟩
  ·have h1:(t.length:Int)+1≤1:=by assumption
   go_ret
   exact⟨ret_int (cnt_digs c t most (.inl (by omega))),by assumption⟩
theorem count_any(s:ByteArray)(most:Int)(hl:s.size≤9223372036854775807)(w0 w:World)(hr:Rel w0 w):
  Calls Tryz.prog 131 #[.string s,yI most] w fun e w'=>e= .returned (yI (cnt s.data.toList most))∧Rel w0 w':=by
 have:=count_list s.data.toList most (by simpa using hl) w0 w hr
 rwa [B_of] at this
theorem pair_any(s:ByteArray)(w0 w:World)(hr:Rel w0 w):
  Calls Tryz.prog 161 #[.string s] w fun e w'=>e= .returned (yI (pair s.data.toList))∧Rel w0 w':=by
 have hL:s.data.toList.length=s.size:=by simp
 by_cases h:s.size=2
 ·have HS:=yH (show digs 99 s.data.toList 0=pair s.data.toList by unfold pair;rw[if_pos (by omega)])
  have h':((s.size:Int) !=2)=false:=by simp[h]
  clear h hL
  go_enter Tryz.func161,Tryz.ntmps161
  go_wp2_with ((go_at_call 158;(with_reducible refine(digits_prog _ _ (by omega) _ _ hr).mono ?_);rintro e w' ⟨rfl,hr'⟩))
  go_ret
  exact⟨ret_int HS.out,by assumption⟩
 ·have HS:=yH (pair_no (l:=s.data.toList) (by omega))
  have h':((s.size:Int) !=2)=true:=by simp;omega
  clear h hL
  go_enter Tryz.func161,Tryz.ntmps161
  go_wp2_with (fail)
  go_ret
  exact⟨ret_int HS.out.symm,hr⟩
def dot:ByteArray:=⟨#[46]⟩
def cutA(s:ByteArray):List UInt8:=(cut s.data.toList [46]).1
def cutB(s:ByteArray):List UInt8:=(cut s.data.toList [46]).2.1
def cutC(s:ByteArray):Bool:=(cut s.data.toList [46]).2.2
theorem ret_ssb{a a' b b':ByteArray}{c c':Bool}(h:a=a')(h':b=b')(h'':c=c'):Ending.returned (.tuple #[.string a,.string b,.bool c])=Ending.returned (.tuple #[.string a',.string b',.bool c']):=by rw[h,h',h'']
theorem lcut_any(s:ByteArray)(hl:s.size≤9223372036854775807)(w0 w:World)(hr:Rel w0 w):
  Calls Tryz.prog 171 #[.string s,.string ⟨#[46]⟩] w fun e w'=>e= .returned (.tuple #[.string (B (cutA s)),.string (B (cutB s)),.bool (cutC s)])∧Rel w0 w':=by
 have ei:Lib.indexByte s.data.toList 46=Lib.indexB s dot:=(Lib.index_one s.data.toList 46).symm
 rcases Lib.indexB_cases s dot with hix|⟨i,hix,hroom⟩
 ·obtain⟨e1,e2,e3⟩:=Lib.cutB_miss s dot hix
  have f1:=yH (show s=B (cutA s) from e1.symm)
  have f2:=yH (show(⟨#[]⟩:ByteArray)=B (cutB s) from e2.symm)
  have f3:=yH (show false=cutC s from e3.symm)
  have hix':=yH (ei.trans hix)
  clear e1 e2 e3 ei hix
  go_enter Tryz.func171,Tryz.ntmps171
  go_wp2_with ((go_at_call 178;refine(int_at (R:=fun w'=>w'=_) (-1) (Tryz.stringslite_Index_one s 46 _) hix').mono ?_;rintro e w' ⟨rfl,rfl⟩))
  go_ret3
  exact⟨ret_ssb f1.out f2.out f3.out,hr⟩
 ·obtain⟨e1,e2,e3⟩:=Lib.cutB_hit s dot i hix
  have f1:=yH (show s.extract 0 i=B (cutA s) from e1.symm)
  have f2:=yH (show s.extract (i+1) s.size=B (cutB s) from e2.symm)
  have f3:=yH (show true=cutC s from e3.symm)
  have hix':=yH (ei.trans hix)
  have hd:dot.size=1:=rfl
  rw[hd] at hroom
  have c1:(0:Int)≤↑i:=by omega
  have c2:(↑i:Int)≤↑s.size:=by omega
  have c3:(0:Int)≤↑i+1:=by omega
  have c4:(↑i+1:Int)≤↑s.size:=by omega
  clear e1 e2 e3 ei hix hd
  have c5:IntKind.i64.wrap ((i:Int)+1)=(i:Int)+1:=IntWalk.i64_in _ (by omega)
  have c6:((i:Int)+1).toNat=i+1:=by omega
  go_enter Tryz.func171,Tryz.ntmps171
  go_wp2_with ((go_at_call 178;refine(int_at (R:=fun w'=>w'=_) (i:Int) (Tryz.stringslite_Index_one s 46 _) hix').mono ?_;rintro e w' ⟨rfl,rfl⟩))
  go_region
  go_wp2
  go_ret3
  exact⟨ret_ssb f1.out f2.out f3.out,hr.drew⟩
theorem cut_any(s:ByteArray)(hl:s.size≤9223372036854775807)(w0 w:World)(hr:Rel w0 w):
  Calls Tryz.prog 160 #[.string s,.string ⟨#[46]⟩] w fun e w'=>e= .returned (.tuple #[.string (B (cutA s)),.string (B (cutB s)),.bool (cutC s)])∧Rel w0 w':=by
 go_enter Tryz.func160,Tryz.ntmps160
 go_wp2_with ((go_at_call 171;(with_reducible refine(lcut_any _ hl _ _ hr).mono ?_);rintro e w' ⟨rfl,hr'⟩))
 go_ret3
 exact⟨ret_ssb rfl rfl rfl,hr'⟩
theorem trim_body(l:List UInt8):trimPrefix l [45]=body l∧hasPrefix l [45]=negL l:=by
 unfold trimPrefix hasPrefix body negL
 cases l with
 |nil=>exact⟨rfl,rfl⟩
 |cons c t=>
  by_cases h:c=45
  ·subst h;exact⟨rfl,rfl⟩
  ·have h1:((45:UInt8)==c)=false:=by simp[Ne.symm h]
   have h2:(c==(45:UInt8))=false:=by simp[h]
   simp[List.isPrefixOf,h1,h]
def bd(s:ByteArray):ByteArray:=B (body s.data.toList)
theorem bd_size(s:ByteArray):(bd s).size≤s.size:=by
 unfold bd body
 rw[B_size]
 have:s.data.toList.length=s.size:=by simp
 split
 ·rw[List.length_tail];omega
 ·omega
theorem cutp_any(s:ByteArray)(b:Bool)(hb:Hid (negL s.data.toList=b))(w0 w:World)(hr:Rel w0 w):
  Calls Tryz.prog 159 #[.string s,.string ⟨#[45]⟩] w fun e w'=>e= .returned (.tuple #[.string (bd s),.bool b])∧Rel w0 w':=by
 refine(Tryz.strings_CutPrefix s ⟨#[45]⟩ w).mono ?_
 rintro e w' ⟨rfl,rfl⟩
 obtain⟨h1,h2⟩:=trim_body s.data.toList
 refine⟨?_,hr⟩
 show Ending.returned (.tuple #[.string ⟨(trimPrefix s.data.toList [45]).toArray⟩,.bool (hasPrefix s.data.toList [45])])=_
 rw[h1,h2,hb.out]
 rfl
theorem cutA_size(s:ByteArray):(B (cutA s)).size≤s.size:=by
 rw[B_size]
 unfold cutA
 have hl:s.data.toList.length=s.size:=by simp
 unfold cut
 split
 ·rw[List.length_take];omega
 ·show s.data.toList.length≤s.size;omega
theorem parse_no{l:List UInt8}(h:cnt (cut (body l) [46]).1 10000000000<0∨pair (cut (body l) [46]).2.1<0):0=prs1 l∧20=prs2 l:=by
 unfold prs1 prs2;rw[prog_no h];exact⟨rfl,rfl⟩
theorem parse_yes{l:List UInt8}{h c:Int}{b:Bool}(e1:cnt (cut (body l) [46]).1 10000000000=h)(e2:pair (cut (body l) [46]).2.1=c)(h0:0≤h)(c0:0≤c)(eb:negL l=b):
  ((1000000000000<h*100+c∨(b=true∧h*100+c=0))→0=prs1 l∧20=prs2 l)∧((h*100+c≤1000000000000∧ ¬(b=true∧h*100+c=0))→(if b then -(h*100+c) else h*100+c)=prs1 l∧0=prs2 l):=by
 have:=prog_yes (l:=l) (by rw[e1];exact h0) (by rw[e2];exact c0)
 rw[e1,e2,eb] at this
 unfold prs1 prs2
 rw[this]
 unfold fin
 constructor
 ·intro hh
  simp only[if_pos hh]
  exact⟨rfl,rfl⟩
 ·intro hh
  have hn: ¬(1000000000000<h*100+c∨(b=true∧h*100+c=0)):=fun x=>x.elim (fun y=>by omega) hh.2
  simp only[if_neg hn]
  exact⟨rfl,rfl⟩
theorem parse_any(s:ByteArray)(hl:s.size≤9223372036854775807)(w0 w:World)(hr:Rel w0 w):
  Calls Tryz.prog 132 #[.string s] w fun e w'=>Two e (prs1 s.data.toList) (prs2 s.data.toList)∧Rel w0 w':=by
 obtain⟨b,hb⟩:∃b,negL s.data.toList=b:=⟨_,rfl⟩
 obtain⟨h,he1⟩:∃h,cnt (cut (body s.data.toList) [46]).1 10000000000=h:=⟨_,rfl⟩
 obtain⟨c,he2⟩:∃c,pair (cut (body s.data.toList) [46]).2.1=c:=⟨_,rfl⟩
 have hbd:=cnt_bd (cut (body s.data.toList) [46]).1 10000000000
 have cbd:=pair_bd (cut (body s.data.toList) [46]).2.1
 rw[he1] at hbd
 rw[he2] at cbd
 have h1: -1≤h:=by omega
 have h2:h≤10000000000:=by omega
 have c1: -1≤c:=by omega
 have c2:c≤99:=by omega
 have HB:=yH hb
 have HE1:=yH (show cnt (B (cutA (bd s))).data.toList 10000000000=h by rw[B_list];unfold cutA bd;rw[B_list];exact he1)
 have HE2:=yH (show pair (B (cutB (bd s))).data.toList=c by rw[B_list];unfold cutB bd;rw[B_list];exact he2)
 have z1:=bd_size s
 have z2:=cutA_size (bd s)
 have HN:=yH (parse_no (l:=s.data.toList))
 rw[he1,he2] at HN
 have HY:0≤h→0≤c→_:=fun x y=>parse_yes he1 he2 x y hb
 have HY:=yH HY
 clear hbd cbd he1 he2 hb
 by_cases h0:h<0
 ·go_enter Tryz.func132,Tryz.ntmps132
  go_wp2_with (first|(go_at_call 159;(with_reducible refine(cutp_any _ b HB _ _ hr).mono ?_);rintro e w' ⟨rfl,hr'⟩)|(go_at_call 160;(with_reducible refine(cut_any _ (by omega) _ _ (by assumption)).mono ?_);rintro e w' ⟨rfl,hr'⟩)|(go_at_call 131;(with_reducible refine(int_at h (count_any _ _ (by omega) _ _ (by assumption)) HE1).mono ?_);rintro e w' ⟨rfl,hr'⟩)|(go_at_call 161;(with_reducible refine(int_at c (pair_any _ _ _ (by assumption)) HE2).mono ?_);rintro e w' ⟨rfl,hr'⟩))
  go_ret2
  exact⟨ret_two (HN.out (.inl h0)).1 (HN.out (.inl h0)).2,by assumption⟩
 ·by_cases c0:c<0
  ·go_enter Tryz.func132,Tryz.ntmps132
   go_wp2_with (first|(go_at_call 159;(with_reducible refine(cutp_any _ b HB _ _ hr).mono ?_);rintro e w' ⟨rfl,hr'⟩)|(go_at_call 160;(with_reducible refine(cut_any _ (by omega) _ _ (by assumption)).mono ?_);rintro e w' ⟨rfl,hr'⟩)|(go_at_call 131;(with_reducible refine(int_at h (count_any _ _ (by omega) _ _ (by assumption)) HE1).mono ?_);rintro e w' ⟨rfl,hr'⟩)|(go_at_call 161;(with_reducible refine(int_at c (pair_any _ _ _ (by assumption)) HE2).mono ?_);rintro e w' ⟨rfl,hr'⟩))
   go_ret2
   exact⟨ret_two (HN.out (.inr c0)).1 (HN.out (.inr c0)).2,by assumption⟩
  ·have HY2:=yH (HY.out (by omega) (by omega))
   clear HY HN
   obtain⟨a,ha⟩:∃a,a=h*100+c:=⟨_,rfl⟩
   rw[←ha] at HY2
   have a0:0≤a:=by omega
   have a1:a≤1000000000099:=by omega
   by_cases hbig:1000000000000<a
   ·have HR:=yH (show rt (h*100+c)=false by rw[←ha];exact rt_no (.inr hbig))
    have h3:0≤h:=by omega
    have c3:0≤c:=by omega
    have HH:=yH (HY2.out.1 (.inl hbig))
    clear ha h0 c0
    go_enter Tryz.func132,Tryz.ntmps132
    go_wp2_with (first|(go_at_call 159;(with_reducible refine(cutp_any _ b HB _ _ hr).mono ?_);rintro e w' ⟨rfl,hr'⟩)|(go_at_call 160;(with_reducible refine(cut_any _ (by omega) _ _ (by assumption)).mono ?_);rintro e w' ⟨rfl,hr'⟩)|(go_at_call 131;(with_reducible refine(int_at h (count_any _ _ (by omega) _ _ (by assumption)) HE1).mono ?_);rintro e w' ⟨rfl,hr'⟩)|(go_at_call 161;(with_reducible refine(int_at c (pair_any _ _ _ (by assumption)) HE2).mono ?_);rintro e w' ⟨rfl,hr'⟩)|(go_at_call 140;(with_reducible refine(bool_at false (right_any _ _) HR).mono ?_);rintro e w' ⟨rfl,rfl⟩))
    go_ret2
    exact⟨ret_two HH.out.1 HH.out.2,by assumption⟩
   ·have HR:=yH (show rt (h*100+c)=true by rw[←ha];exact rt_yes (by omega) (by omega))
    have bb:h*100+c≤1000000000000:=by omega
    rw[ha] at HY2
    clear ha hbig a0 a1
    cases b
    ·have HH:=yH (HY2.out.2 ⟨bb,by simp⟩)
     have h3:0≤h:=by omega
     have c3:0≤c:=by omega
     clear HY2 h0 c0
     go_enter Tryz.func132,Tryz.ntmps132
     go_wp2_with (first|(go_at_call 159;(with_reducible refine(cutp_any _ false HB _ _ hr).mono ?_);rintro e w' ⟨rfl,hr'⟩)|(go_at_call 160;(with_reducible refine(cut_any _ (by omega) _ _ (by assumption)).mono ?_);rintro e w' ⟨rfl,hr'⟩)|(go_at_call 131;(with_reducible refine(int_at h (count_any _ _ (by omega) _ _ (by assumption)) HE1).mono ?_);rintro e w' ⟨rfl,hr'⟩)|(go_at_call 161;(with_reducible refine(int_at c (pair_any _ _ _ (by assumption)) HE2).mono ?_);rintro e w' ⟨rfl,hr'⟩)|(go_at_call 140;(with_reducible refine(bool_at true (right_any _ _) HR).mono ?_);rintro e w' ⟨rfl,rfl⟩))
     go_ret2
     exact⟨ret_two HH.out.1 HH.out.2,by assumption⟩
    ·by_cases hz:h*100+c=0
     ·have HH:=yH (HY2.out.1 (.inr ⟨rfl,hz⟩))
      have hz':((h*100+c:Int)==0)=true:=by simpa using hz
      clear hz
      have h3:0≤h:=by omega
      have c3:0≤c:=by omega
      clear HY2 h0 c0
      go_enter Tryz.func132,Tryz.ntmps132
      go_wp2_with (first|(go_at_call 159;(with_reducible refine(cutp_any _ true HB _ _ hr).mono ?_);rintro e w' ⟨rfl,hr'⟩)|(go_at_call 160;(with_reducible refine(cut_any _ (by omega) _ _ (by assumption)).mono ?_);rintro e w' ⟨rfl,hr'⟩)|(go_at_call 131;(with_reducible refine(int_at h (count_any _ _ (by omega) _ _ (by assumption)) HE1).mono ?_);rintro e w' ⟨rfl,hr'⟩)|(go_at_call 161;(with_reducible refine(int_at c (pair_any _ _ _ (by assumption)) HE2).mono ?_);rintro e w' ⟨rfl,hr'⟩)|(go_at_call 140;(with_reducible refine(bool_at true (right_any _ _) HR).mono ?_);rintro e w' ⟨rfl,rfl⟩))
      go_ret2
      exact⟨ret_two HH.out.1 HH.out.2,by assumption⟩
     ·have HH:=yH (HY2.out.2 ⟨bb,fun x=>hz x.2⟩)
      have hz':((h*100+c:Int)==0)=false:=by simpa using hz
      clear hz
      have h3:0≤h:=by omega
      have c3:0≤c:=by omega
      clear HY2 h0 c0
      go_enter Tryz.func132,Tryz.ntmps132
      go_wp2_with (first|(go_at_call 159;(with_reducible refine(cutp_any _ true HB _ _ hr).mono ?_);rintro e w' ⟨rfl,hr'⟩)|(go_at_call 160;(with_reducible refine(cut_any _ (by omega) _ _ (by assumption)).mono ?_);rintro e w' ⟨rfl,hr'⟩)|(go_at_call 131;(with_reducible refine(int_at h (count_any _ _ (by omega) _ _ (by assumption)) HE1).mono ?_);rintro e w' ⟨rfl,hr'⟩)|(go_at_call 161;(with_reducible refine(int_at c (pair_any _ _ _ (by assumption)) HE2).mono ?_);rintro e w' ⟨rfl,hr'⟩)|(go_at_call 140;(with_reducible refine(bool_at true (right_any _ _) HR).mono ?_);rintro e w' ⟨rfl,rfl⟩))
      go_ret2
      exact⟨ret_two HH.out.1 HH.out.2,by assumption⟩
theorem lletter_any(c:UInt8)(w:World):Calls Tryz.prog 143 #[.int .u8 (c.toNat:Int)] w fun e w'=>e= .returned (.bool (isL c))∧w=w':=by
 by_cases h1:97≤c.toNat<;>by_cases h2:c.toNat≤122
 all_goals
  go_enter Tryz.func143,Tryz.ntmps143
  go_wp2
  all_goals
   go_ret
   exact⟨ret_bool (Bool.eq_iff_iff.2 (by simp[isL];omega)),rfl⟩
theorem ldigit_any(c:UInt8)(w:World):Calls Tryz.prog 144 #[.int .u8 (c.toNat:Int)] w fun e w'=>e= .returned (.bool (isD c))∧w=w':=by
 by_cases h1:48≤c.toNat<;>by_cases h2:c.toNat≤57
 all_goals
  go_enter Tryz.func144,Tryz.ntmps144
  go_wp2
  all_goals
   go_ret
   exact⟨ret_bool (Bool.eq_iff_iff.2 (by simp[isD];omega)),rfl⟩
theorem pt_bytes(c:UInt8):isPt c=(isL c||isD c||((c.toNat:Int)==46)):=by
 rw[byte_eq (d:=46) 46 rfl];rfl
theorem lpart_any(c:UInt8)(w:World):Calls Tryz.prog 133 #[.int .u8 (c.toNat:Int)] w fun e w'=>e= .returned (.bool (isPt c))∧w=w':=by
 have hp:=pt_bytes c
 cases hl:isL c<;>cases hd:isD c<;>cases h3:((c.toNat:Int)==46)
 all_goals
  rw[hl,hd,h3] at hp
  have HP:=yH hp
  have HL:=yH hl
  have HD:=yH hd
  clear hp hl hd
  go_enter Tryz.func133,Tryz.ntmps133
  go_wp2_with (first
   |(go_at_call 143;(with_reducible refine(bool_at _ (lletter_any c _) HL).mono ?_);rintro e w' ⟨rfl,rfl⟩)
   |(go_at_call 144;(with_reducible refine(bool_at _ (ldigit_any c _) HD).mono ?_);rintro e w' ⟨rfl,rfl⟩))
  go_ret
  exact⟨ret_bool HP.out.symm,rfl⟩
theorem lsign_any(c:UInt8)(w:World):Calls Tryz.prog 129 #[.int .u8 (c.toNat:Int)] w fun e w'=>e= .returned (.bool (isSg c))∧w=w':=by
 have hp:=sg_bytes c
 cases h1:((c.toNat:Int)==40)<;>cases h2:((c.toNat:Int)==41)<;>cases h3:((c.toNat:Int)==44)
 all_goals
  rw[h1,h2,h3] at hp
  have HP:=yH hp
  clear hp
  go_enter Tryz.func129,Tryz.ntmps129
  go_wp2_with (fail)
  go_ret
  exact⟨ret_bool HP.out.symm,rfl⟩
theorem lblank_any(c:UInt8)(w:World):Calls Tryz.prog 92 #[.int .u8 (c.toNat:Int)] w fun e w'=>e= .returned (.bool (isBl c))∧w=w':=by
 have hp:=bl_bytes c
 cases h1:((c.toNat:Int)==32)<;>cases h2:((c.toNat:Int)==10)
 all_goals
  rw[h1,h2] at hp
  have HP:=yH hp
  clear hp
  go_enter Tryz.func92,Tryz.ntmps92
  go_wp2_with (fail)
  go_ret
  exact⟨ret_bool HP.out.symm,rfl⟩
theorem lit_eq{s:ByteArray}{l:List UInt8}(h:B l=s):(s.toList==l)=true:=by have:=list_of.2 h.symm;rwa [B_toList] at this
theorem lit_ne{s:ByteArray}{l:List UInt8}(h: ¬B l=s):(s.toList==l)=false:=by have:=list_ne (fun e=>h e.symm);rwa [B_toList] at this
theorem word_ways(s:ByteArray):
  ((s.toList==[108,111,119,101,115,116])=true∧isWord s.data.toList=true)∨
  ((s.toList==[108,111,119,101,115,116])=false∧(s.toList==[115,101,99,111,110,100])=true∧isWord s.data.toList=true)∨
  ((s.toList==[108,111,119,101,115,116])=false∧(s.toList==[115,101,99,111,110,100])=false∧(s.toList==[102,114,111,109])=true∧isWord s.data.toList=true)∨
  ((s.toList==[108,111,119,101,115,116])=false∧(s.toList==[115,101,99,111,110,100])=false∧(s.toList==[102,114,111,109])=false∧(s.toList==[108,101,115,115])=true∧isWord s.data.toList=true)∨
  ((s.toList==[108,111,119,101,115,116])=false∧(s.toList==[115,101,99,111,110,100])=false∧(s.toList==[102,114,111,109])=false∧(s.toList==[108,101,115,115])=false∧(s.toList==[99,117,116])=true∧isWord s.data.toList=true)∨
  ((s.toList==[108,111,119,101,115,116])=false∧(s.toList==[115,101,99,111,110,100])=false∧(s.toList==[102,114,111,109])=false∧(s.toList==[108,101,115,115])=false∧(s.toList==[99,117,116])=false∧(s.toList==[109,105,110])=true∧isWord s.data.toList=true)∨
  ((s.toList==[108,111,119,101,115,116])=false∧(s.toList==[115,101,99,111,110,100])=false∧(s.toList==[102,114,111,109])=false∧(s.toList==[108,101,115,115])=false∧(s.toList==[99,117,116])=false∧(s.toList==[109,105,110])=false∧(s.toList==[109,97,120])=true∧isWord s.data.toList=true)∨
  ((s.toList==[108,111,119,101,115,116])=false∧(s.toList==[115,101,99,111,110,100])=false∧(s.toList==[102,114,111,109])=false∧(s.toList==[108,101,115,115])=false∧(s.toList==[99,117,116])=false∧(s.toList==[109,105,110])=false∧(s.toList==[109,97,120])=false∧(s.toList==[101,108,115,101])=true∧isWord s.data.toList=true)∨
  ((s.toList==[108,111,119,101,115,116])=false∧(s.toList==[115,101,99,111,110,100])=false∧(s.toList==[102,114,111,109])=false∧(s.toList==[108,101,115,115])=false∧(s.toList==[99,117,116])=false∧(s.toList==[109,105,110])=false∧(s.toList==[109,97,120])=false∧(s.toList==[101,108,115,101])=false∧(s.toList==[105,102])=true∧isWord s.data.toList=true)∨
  ((s.toList==[108,111,119,101,115,116])=false∧(s.toList==[115,101,99,111,110,100])=false∧(s.toList==[102,114,111,109])=false∧(s.toList==[108,101,115,115])=false∧(s.toList==[99,117,116])=false∧(s.toList==[109,105,110])=false∧(s.toList==[109,97,120])=false∧(s.toList==[101,108,115,101])=false∧(s.toList==[105,102])=false∧(s.toList==[109,111,114,101])=true∧isWord s.data.toList=true)∨
  ((s.toList==[108,111,119,101,115,116])=false∧(s.toList==[115,101,99,111,110,100])=false∧(s.toList==[102,114,111,109])=false∧(s.toList==[108,101,115,115])=false∧(s.toList==[99,117,116])=false∧(s.toList==[109,105,110])=false∧(s.toList==[109,97,120])=false∧(s.toList==[101,108,115,101])=false∧(s.toList==[105,102])=false∧(s.toList==[109,111,114,101])=false∧(s.toList==[97,98,111,118,101])=true∧isWord s.data.toList=true)∨
  ((s.toList==[108,111,119,101,115,116])=false∧(s.toList==[115,101,99,111,110,100])=false∧(s.toList==[102,114,111,109])=false∧(s.toList==[108,101,115,115])=false∧(s.toList==[99,117,116])=false∧(s.toList==[109,105,110])=false∧(s.toList==[109,97,120])=false∧(s.toList==[101,108,115,101])=false∧(s.toList==[105,102])=false∧(s.toList==[109,111,114,101])=false∧(s.toList==[97,98,111,118,101])=false∧isWord s.data.toList=false):=by
 by_cases h0:B [108,111,119,101,115,116]=s
 ·exact .inl ⟨lit_eq h0,word_yes (j:=0) (by omega) h0⟩
 by_cases h1:B [115,101,99,111,110,100]=s
 ·exact .inr (.inl ⟨lit_ne h0,lit_eq h1,word_yes (j:=1) (by omega) h1⟩)
 by_cases h2:B [102,114,111,109]=s
 ·exact .inr (.inr (.inl ⟨lit_ne h0,lit_ne h1,lit_eq h2,word_yes (j:=2) (by omega) h2⟩))
 by_cases h3:B [108,101,115,115]=s
 ·exact .inr (.inr (.inr (.inl ⟨lit_ne h0,lit_ne h1,lit_ne h2,lit_eq h3,word_yes (j:=3) (by omega) h3⟩)))
 by_cases h4:B [99,117,116]=s
 ·exact .inr (.inr (.inr (.inr (.inl ⟨lit_ne h0,lit_ne h1,lit_ne h2,lit_ne h3,lit_eq h4,word_yes (j:=4) (by omega) h4⟩))))
 by_cases h5:B [109,105,110]=s
 ·exact .inr (.inr (.inr (.inr (.inr (.inl ⟨lit_ne h0,lit_ne h1,lit_ne h2,lit_ne h3,lit_ne h4,lit_eq h5,word_yes (j:=5) (by omega) h5⟩)))))
 by_cases h6:B [109,97,120]=s
 ·exact .inr (.inr (.inr (.inr (.inr (.inr (.inl ⟨lit_ne h0,lit_ne h1,lit_ne h2,lit_ne h3,lit_ne h4,lit_ne h5,lit_eq h6,word_yes (j:=6) (by omega) h6⟩))))))
 by_cases h7:B [101,108,115,101]=s
 ·exact .inr (.inr (.inr (.inr (.inr (.inr (.inr (.inl ⟨lit_ne h0,lit_ne h1,lit_ne h2,lit_ne h3,lit_ne h4,lit_ne h5,lit_ne h6,lit_eq h7,word_yes (j:=7) (by omega) h7⟩)))))))
 by_cases h8:B [105,102]=s
 ·exact .inr (.inr (.inr (.inr (.inr (.inr (.inr (.inr (.inl ⟨lit_ne h0,lit_ne h1,lit_ne h2,lit_ne h3,lit_ne h4,lit_ne h5,lit_ne h6,lit_ne h7,lit_eq h8,word_yes (j:=8) (by omega) h8⟩))))))))
 by_cases h9:B [109,111,114,101]=s
 ·exact .inr (.inr (.inr (.inr (.inr (.inr (.inr (.inr (.inr (.inl ⟨lit_ne h0,lit_ne h1,lit_ne h2,lit_ne h3,lit_ne h4,lit_ne h5,lit_ne h6,lit_ne h7,lit_ne h8,lit_eq h9,word_yes (j:=9) (by omega) h9⟩)))))))))
 by_cases h10:B [97,98,111,118,101]=s
 ·exact .inr (.inr (.inr (.inr (.inr (.inr (.inr (.inr (.inr (.inr (.inl ⟨lit_ne h0,lit_ne h1,lit_ne h2,lit_ne h3,lit_ne h4,lit_ne h5,lit_ne h6,lit_ne h7,lit_ne h8,lit_ne h9,lit_eq h10,word_yes (j:=10) (by omega) h10⟩))))))))))
 exact .inr (.inr (.inr (.inr (.inr (.inr (.inr (.inr (.inr (.inr (.inr (⟨lit_ne h0,lit_ne h1,lit_ne h2,lit_ne h3,lit_ne h4,lit_ne h5,lit_ne h6,lit_ne h7,lit_ne h8,lit_ne h9,lit_ne h10,word_no (fun j hj=>by
  rcases j with _|_|_|_|_|_|_|_|_|_|_|j
  ·exact h0
  ·exact h1
  ·exact h2
  ·exact h3
  ·exact h4
  ·exact h5
  ·exact h6
  ·exact h7
  ·exact h8
  ·exact h9
  ·exact h10
  ·omega)⟩)))))))))))
theorem lword_any(s:ByteArray)(w0 w:World)(hr:Rel w0 w):
  Calls Tryz.prog 130 #[.string s] w fun e w'=>e= .returned (.bool (isWord s.data.toList))∧Rel w0 w':=by
 rcases word_ways s with ⟨k0,hw⟩|⟨k0,k1,hw⟩|⟨k0,k1,k2,hw⟩|⟨k0,k1,k2,k3,hw⟩|⟨k0,k1,k2,k3,k4,hw⟩|⟨k0,k1,k2,k3,k4,k5,hw⟩|⟨k0,k1,k2,k3,k4,k5,k6,hw⟩|⟨k0,k1,k2,k3,k4,k5,k6,k7,hw⟩|⟨k0,k1,k2,k3,k4,k5,k6,k7,k8,hw⟩|⟨k0,k1,k2,k3,k4,k5,k6,k7,k8,k9,hw⟩|⟨k0,k1,k2,k3,k4,k5,k6,k7,k8,k9,k10,hw⟩|⟨k0,k1,k2,k3,k4,k5,k6,k7,k8,k9,k10,hw⟩
 all_goals
  have HW:=yH hw
  clear hw
  go_enter Tryz.func130,Tryz.ntmps130
  go_wp2_with (fail)
  go_ret
  exact⟨ret_bool HW.out.symm,hr⟩
theorem lname_list(l:List UInt8)(hl:l.length≤9223372036854775807)(w0 w:World)(hr:Rel w0 w):
  Calls Tryz.prog 113 #[.string (B l)] w fun e w'=>e= .returned (.bool (isName l))∧Rel w0 w':=by
 cases l with
 |nil=>
  have HT:=B_toList []
  go_enter Tryz.func113,Tryz.ntmps113
  go_wp2_with (fail)
  go_ret
  exact⟨ret_bool rfl,hr⟩
 |cons c t=>
  have HT:=B_toList (c::t)
  have HB:=B_cons_size c t
  have H0:=B_zero c t
  by_cases h12:t.length+1≤12
  ·have z: ¬(12:Int)<(t.length:Int)+1:=by omega
   cases hc:isL c
   ·have HF:=yH (show isName (c::t)=false by rw[name_eq,hc];simp)
    clear hl h12
    go_enter Tryz.func113,Tryz.ntmps113
    go_wp2_with (go_at_call 143;(with_reducible refine(bool_at false (lletter_any c _) (yH hc)).mono ?_);rintro e w' ⟨rfl,rfl⟩)
    go_ret
    exact⟨ret_bool HF.out.symm,hr⟩
   ·cases hw:isWord (c::t)
    ·have HC:=yH hc
     have HWd:=yH (show isWord (B (c::t)).data.toList=false by rw[B_list];exact hw)
     have HW0:=yH hw
     have HR:=yH hr
     clear hw hc
     go_enter Tryz.func113,Tryz.ntmps113
     go_wp2_with (first
      |(go_at_call 143;(with_reducible refine(bool_at true (lletter_any c _) HC).mono ?_);rintro e w' ⟨rfl,rfl⟩)
      |(go_at_call 130;(with_reducible refine(bool_at false (lword_any _ _ _ hr.self) HWd).mono ?_);rintro e w1 ⟨rfl,h1⟩))
     go_loopw [3,23] (fun _ i wr=>∃j:Nat,j≤t.length+1∧i=yI j∧Hid (((c::t).take j).all LD=true)∧wr=w1) (fun _ i _=>t.length+1-(RowKit.intOf i).toNat)
     case atStart=>exact⟨0,by omega,rfl,yH rfl,rfl⟩
     case round=>
      obtain⟨j,hj,rfl,HA,rfl⟩:=hrel
      by_cases hlt:j<t.length+1
      ·have hlt':j<(c::t).length:=by simpa using hlt
       obtain⟨x,hx⟩:∃x,x=(c::t)[j]:=⟨_,rfl⟩
       have hg:∀h,(B (c::t))[j]'h=x:=fun h=>by rw[hx];rfl
       have HX:=yH hx
       clear hx
       cases hL:isL x<;>cases hD:isD x
       ·have HF:=yH (show isName (c::t)=false by rw[name_eq,all_bad j hlt' (by rw[←HX.out];simp[LD,hL,hD])];simp)
        have HL:=yH hL
        have HD:=yH hD
        clear hL hD
        go_wp2_with (first
             |(go_at_call 143;(with_reducible refine(bool_at false (lletter_any x _) HL).mono ?_);rintro e w' ⟨rfl,rfl⟩)
             |(go_at_call 144;(with_reducible refine(bool_at false (ldigit_any x _) HD).mono ?_);rintro e w' ⟨rfl,rfl⟩))
        go_ret
        exact⟨ret_bool HF.out.symm,HR.out.trans h1⟩
       all_goals
        have HM:=yH (all_more j hlt' HA.out (by rw[←HX.out];simp[LD,hL,hD]))
        have HL:=yH hL
        have HD:=yH hD
        clear hL hD
        go_wp2_with (first
             |(go_at_call 143;(with_reducible refine(bool_at _ (lletter_any x _) HL).mono ?_);rintro e w' ⟨rfl,rfl⟩)
             |(go_at_call 144;(with_reducible refine(bool_at _ (ldigit_any x _) HD).mono ?_);rintro e w' ⟨rfl,rfl⟩))
        go_roundw
        case rel=>exact⟨j+1,by omega,by go_num,HM,trivial⟩
        case measure=>simp[RowKit.intOf];omega
      ·obtain rfl:j=t.length+1:=by omega
       have HY:=yH (show isName (c::t)=true by
        have ha:=HA.out
        rw[List.take_of_length_le (by simp)] at ha
        rw[name_eq,ha,HC.out,HW0.out,decide_eq_true h12];rfl)
       go_wp2_with (fail)
       go_ret
       exact⟨ret_bool HY.out.symm,HR.out.trans h1⟩
    ·have HC:=yH hc
     have HWd:=yH (show isWord (B (c::t)).data.toList=true by rw[B_list];exact hw)
     have HF:=yH (show isName (c::t)=false by rw[name_eq,hw];simp)
     clear hw hc
     go_enter Tryz.func113,Tryz.ntmps113
     go_wp2_with (first
      |(go_at_call 143;(with_reducible refine(bool_at true (lletter_any c _) HC).mono ?_);rintro e w' ⟨rfl,rfl⟩)
      |(go_at_call 130;(with_reducible refine(bool_at true (lword_any _ _ _ hr.self) HWd).mono ?_);rintro e w1 ⟨rfl,h1⟩))
     go_ret
     exact⟨ret_bool HF.out.symm,hr.trans h1⟩
  ·have HF:=yH (show isName (c::t)=false by rw[name_eq,decide_eq_false h12];simp)
   have z:(12:Int)<(t.length:Int)+1:=by omega
   clear h12
   go_enter Tryz.func113,Tryz.ntmps113
   go_wp2_with (fail)
   go_ret
   exact⟨ret_bool HF.out.symm,hr⟩
theorem lname_any(s:ByteArray)(hs:s.size≤9223372036854775807)(w0 w:World)(hr:Rel w0 w):
  Calls Tryz.prog 113 #[.string s] w fun e w'=>e= .returned (.bool (isName s.data.toList))∧Rel w0 w':=by
 have:=lname_list s.data.toList (by simpa using hs) w0 w hr
 rwa [B_of] at this
theorem pend_yes(V:World)(g a:Nat)(ts:List Tok)(w:World)(h:StP V w g ts a)(hc:(hdT ts).1=5):
  Calls Tryz.prog 76 #[.pointer (some ⟨g,0,none⟩)] w fun e w'=>e= .returned (.tuple #[])∧w.grownBy w' (some g):=by
 have HN:=yH (pnext_any V g a ts w h)
 have HV:=yH h.V
 obtain⟨⟨k,x,n,p⟩,ht⟩:∃t,hdT ts=t:=⟨_,rfl⟩
 rw[ht] at HN hc
 obtain rfl:k=5:=hc
 clear h ht
 go_enter Tryz.func76,Tryz.ntmps76
 go_wp2_with (go_at_call 103;(with_reducible refine HN.out.mono ?_);rintro e w2 ⟨rfl,s2,g2,_⟩;have G2:=yH g2;clear s2 g2)
 go_end0
 exact⟨rfl,grown_trans G2.out (grown_rel (some g) ((HV.out.1.grown G2.out (fun k e=>by cases e;exact HV.out.2)).self.alloc _))⟩
theorem pend_not(V:World)(g a:Nat)(ts:List Tok)(w:World)(h:StP V w g ts a)(hc:(hdT ts).1≠5):
  Calls Tryz.prog 76 #[.pointer (some ⟨g,0,none⟩)] w fun e w'=>e=FLT 80 (atT ts)∧w.grownBy w' (some g):=by
 have HN:=yH (pnext_any V g a ts w h)
 have HV:=yH h.V
 obtain⟨t,ht⟩:∃t,hdT ts=t:=⟨_,rfl⟩
 have HA:=yH (show atT ts=t.2.2.2 by unfold atT;rw[ht])
 rw[ht] at HN hc
 have hb:(t.1==5)=false:=by simpa using hc
 have hb':(t.1 !=5)=true:=by simpa using hc
 clear h ht hc
 go_enter Tryz.func76,Tryz.ntmps76
 go_wp2_with (first
  |(go_at_call 103;(with_reducible refine HN.out.mono ?_);rintro e w2 ⟨rfl,s2,g2,_⟩;have G2:=yH g2;clear s2 g2)
  |(go_at_call 102;(with_reducible refine(pwrong_any t _).mono ?_);rintro e w3 ⟨rfl,rfl⟩))
 exact⟨rfl,by rw[HA.out],fail_grown G2.out V (HV.out.1.grown G2.out (fun k e=>by cases e;exact HV.out.2)) _ _ _⟩
theorem pnum_yes(V:World)(g a:Nat)(ts:List Tok)(k m n:Int)(w:World)(h:StP V w g ts a)(hk:k≠5)(hn:numP k m ts= .ok (n,ts.tail)):
  Calls Tryz.prog 135 #[.pointer (some ⟨g,0,none⟩),yI k,yI m] w fun e w'=>e= .returned (yI n)∧StP V w' g ts.tail a∧w.grownBy w' (some g):=by
 have HN:=yH (pnext_any V g a ts w h)
 have hq:(hdT ts).1=k∧(hdT ts).2.2.1≤m∧(hdT ts).2.2.1=n:=by
  unfold numP at hn
  split at hn
  ·rename_i hh;injection hn with hn;injection hn with e _;exact⟨hh.1,hh.2,e⟩
  ·cases hn
 have HT:=yH (h.fine.last (.inl (by rw[hq.1];exact hk)))
 obtain⟨⟨k',x,n',p⟩,ht⟩:∃t,hdT ts=t:=⟨_,rfl⟩
 rw[ht] at HN hq
 obtain⟨q1,q2,q3⟩:=hq
 obtain rfl:k'=k:=q1
 obtain rfl:n'=n:=q3
 have hb:decide (m<n')=false:=by simpa using q2
 clear h ht hn hk q2
 go_enter Tryz.func135,Tryz.ntmps135
 go_wp2_with (go_at_call 103;(with_reducible refine HN.out.mono ?_);rintro e w2 ⟨rfl,s2,g2,_⟩;have S2:=yH s2;have G2:=yH g2;clear s2 g2)
 go_ret
 have R:=(S2.out HT.out).V.1.self.alloc (.cells #[yI k',.string (B x),yI n',yI p] 78)
 exact⟨rfl,(S2.out HT.out).rel R,grown_trans G2.out (grown_rel (some g) R)⟩
theorem pnum_not(V:World)(g a:Nat)(ts:List Tok)(k m:Int)(w:World)(h:StP V w g ts a)(hn:numP k m ts= .error (80,atT ts)):
  Calls Tryz.prog 135 #[.pointer (some ⟨g,0,none⟩),yI k,yI m] w fun e w'=>e=FLT 80 (atT ts)∧w.grownBy w' (some g):=by
 have HN:=yH (pnext_any V g a ts w h)
 have HV:=yH h.V
 have hq:(hdT ts).1≠k∨((hdT ts).1=k∧m<(hdT ts).2.2.1):=by
  unfold numP at hn
  split at hn
  ·cases hn
  ·rename_i hh
   by_cases e:(hdT ts).1=k
   ·exact .inr ⟨e,by have:=fun h'=>hh ⟨e,h'⟩;omega⟩
   ·exact .inl e
 obtain⟨t,ht⟩:∃t,hdT ts=t:=⟨_,rfl⟩
 have HA:=yH (show atT ts=t.2.2.2 by unfold atT;rw[ht])
 rw[ht] at HN hq
 clear h ht hn
 rcases hq with hq|⟨hq,hm⟩
 ·have hb:(t.1==k)=false:=by simpa using hq
  have hb':(t.1 !=k)=true:=by simpa using hq
  clear hq
  go_enter Tryz.func135,Tryz.ntmps135
  go_wp2_with (first
   |(go_at_call 103;(with_reducible refine HN.out.mono ?_);rintro e w2 ⟨rfl,s2,g2,_⟩;have G2:=yH g2;clear s2 g2)
   |(go_at_call 102;(with_reducible refine(pwrong_any t _).mono ?_);rintro e w3 ⟨rfl,rfl⟩))
  exact⟨rfl,by rw[HA.out],fail_grown G2.out V (HV.out.1.grown G2.out (fun k e=>by cases e;exact HV.out.2)) _ _ _⟩
 ·obtain⟨k',x,n',p⟩:=t
  obtain rfl:k'=k:=hq
  have hb:decide (m<n')=true:=by simpa using hm
  clear hm
  go_enter Tryz.func135,Tryz.ntmps135
  go_wp2_with (first
   |(go_at_call 103;(with_reducible refine HN.out.mono ?_);rintro e w2 ⟨rfl,s2,g2,_⟩;have G2:=yH g2;clear s2 g2)
   |(go_at_call 102;(with_reducible refine(pwrong_any (k',x,n',p) _).mono ?_);rintro e w3 ⟨rfl,rfl⟩))
  exact⟨rfl,by rw[HA.out],fail_grown G2.out V (HV.out.1.grown G2.out (fun k e=>by cases e;exact HV.out.2)) _ _ _⟩
theorem pbegin_yes(V:World)(g a:Nat)(ts:List Tok)(w:World)(h:StP V w g ts a)(ha:a<32):
  Calls Tryz.prog 95 #[.pointer (some ⟨g,0,none⟩)] w fun e w'=>e= .returned (TK (hdT ts))∧(ts.tail≠[]→StP V w' g ts.tail a)∧w.grownBy w' (some g):=by
 have hA:=h.V.1.self.alloc (.cells #[yI 0,.string ⟨#[]⟩,yI 0,yI 0] 78)
 have HN:=yH (pnext_any V g a ts _ (h.rel hA))
 have HA:=yH hA
 have HV:=yH h.V
 have hgl:=h.lt
 have HX:=yH (Bk.new w 78 #[yI 0,.string ⟨#[]⟩,yI 0,yI 0])
 obtain⟨t,ht⟩:∃t,hdT ts=t:=⟨_,rfl⟩
 rw[ht] at HN⊢
 have hb:decide (32≤(a:Int))=false:=by simp;omega
 clear h ht hA
 go_enter Tryz.func95,Tryz.ntmps95
 go_wp2_with (go_at_call 103;(with_reducible refine HN.out.mono ?_);rintro e w2 ⟨rfl,s2,g2,S,b2⟩;have S2:=yH s2;have G2:=yH g2;have X2:=HX.out.grown g2 (fun e=>by injection e;omega);obtain⟨⟨_,c1⟩,_⟩:=b2.two;obtain⟨⟨d0,d1,d2,d3⟩,u0,u1,u2,u3⟩:=X2.four;have hz2:=g2.size;simp only[World.size_alloc] at hz2;have hgl2:g<w2.heap.size:=(by omega);have hgl3:w.heap.size<w2.heap.size:=(by omega);have HX2:=yH X2;clear s2 g2 X2)
 have gp:=put4_grown w2 w.heap.size (yI t.1) (.string (B t.2.1)) (yI t.2.2.1) (yI t.2.2.2)
 have RV:=(HV.out.1.trans HA.out).grown G2.out (fun k e=>by cases e;exact HV.out.2)
 have RP:=RV.grown gp (fun k e=>by cases e;exact HV.out.1.size)
 have R:=RP.self.alloc (.cells #[yI t.1,.string (B t.2.1),yI t.2.2.1,yI t.2.2.2] 78)
 obtain⟨⟨y0,y1,y2,y3⟩,_⟩:=((HX2.out.put4 (yI t.1) (.string (B t.2.1)) (yI t.2.2.1) (yI t.2.2.2)).rel R).four
 obtain⟨W,hW⟩:∃W,(((((w2.setCell ⟨w.heap.size,0,none⟩ (yI t.1)).setCell ⟨w.heap.size,1,none⟩ (.string (B t.2.1))).setCell ⟨w.heap.size,2,none⟩ (yI t.2.2.1)).setCell ⟨w.heap.size,3,none⟩ (yI t.2.2.2)).alloc (.cells #[yI t.1,.string (B t.2.1),yI t.2.2.1,yI t.2.2.2] 78))=W:=⟨_,rfl⟩
 rw[hW] at y0 y1 y2 y3 R⊢
 refine bodyPost_ret (v:=TK t) (by simp[results,Tryz.results95,go_sem,y0,y1,y2,y3]) rfl ⟨rfl,fun hn=> ?_, ?_⟩
 ·exact((S2.out hn).grown gp (fun e=>by injection e;omega) (fun k e=>by cases e;exact HV.out.1.size)).rel R
 ·exact grown_of (grown_of (grown_trans (grown_rel (some g) HA.out) G2.out) gp (fun k e=>by cases e;exact Nat.le_refl _)) (grown_rel none R) (fun k e=>by cases e)
theorem pbegin_not(V:World)(g a:Nat)(ts:List Tok)(w:World)(h:StP V w g ts a)(ha:32≤a):
  Calls Tryz.prog 95 #[.pointer (some ⟨g,0,none⟩)] w fun e w'=>e=FLT 81 (atT ts)∧w.grownBy w' (some g):=by
 have hA:=h.V.1.self.alloc (.cells #[yI 0,.string ⟨#[]⟩,yI 0,yI 0] 78)
 have HN:=yH (pnext_any V g a ts _ (h.rel hA))
 have HA:=yH hA
 have HV:=yH h.V
 have hgl:=h.lt
 obtain⟨t,ht⟩:∃t,hdT ts=t:=⟨_,rfl⟩
 have HAt:=yH (show atT ts=t.2.2.2 by unfold atT;rw[ht])
 rw[ht] at HN
 have hb:decide (32≤(a:Int))=true:=by simp;omega
 clear h ht hA
 go_enter Tryz.func95,Tryz.ntmps95
 go_wp2_with (go_at_call 103;(with_reducible refine HN.out.mono ?_);rintro e w2 ⟨rfl,s2,g2,S,b2⟩;have G2:=yH g2;obtain⟨⟨_,c1⟩,_⟩:=b2.two;have hz2:=g2.size;simp only[World.size_alloc] at hz2;have hgl2:g<w2.heap.size:=(by omega);clear s2 g2)
 have RV:=(HV.out.1.trans HA.out).grown G2.out (fun k e=>by cases e;exact HV.out.2)
 exact⟨rfl,by rw[HAt.out],grown_trans (grown_trans (grown_rel (some g) HA.out) G2.out) (grown_rel (some g) (RV.self.alloc _))⟩
end Go.Proofs.YtfekhbeaphpelaaGreatDoor
