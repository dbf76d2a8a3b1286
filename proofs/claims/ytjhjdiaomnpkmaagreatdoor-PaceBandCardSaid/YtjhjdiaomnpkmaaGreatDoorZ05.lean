/- What the landed package lex tells of byt. -/

import Derived.Test.YtjhjdiaomnpkmaaGreatDoorZ04
set_option maxRecDepth 100000
set_option maxHeartbeats 8000000
set_option linter.unusedVariables false
set_option linter.unusedSimpArgs false
namespace Go.Proofs.YtjhjdiaomnpkmaaGreatDoor
open Go.RowKit Go.Lib
theorem lletter_any(c:UInt8)(w:World):Calls Tryz.prog 117 #[.int .u8 (c.toNat:Int)] w fun e w'=>e= .returned (.bool (isL c))∧w=w':=by
 by_cases h1:97≤c.toNat<;>by_cases h2:c.toNat≤122
 all_goals
  go_enter Tryz.func117,Tryz.ntmps117
  go_wp2
  all_goals
   go_ret
   exact⟨ret_bool (Bool.eq_iff_iff.2 (by simp[isL];omega)),rfl⟩
theorem ldigit_any(c:UInt8)(w:World):Calls Tryz.prog 118 #[.int .u8 (c.toNat:Int)] w fun e w'=>e= .returned (.bool (isD c))∧w=w':=by
 by_cases h1:48≤c.toNat<;>by_cases h2:c.toNat≤57
 all_goals
  go_enter Tryz.func118,Tryz.ntmps118
  go_wp2
  all_goals
   go_ret
   exact⟨ret_bool (Bool.eq_iff_iff.2 (by simp[isD];omega)),rfl⟩
theorem pt_bytes(c:UInt8):isPt c=(isL c||isD c||((c.toNat:Int)==46)):=by
 rw[byte_eq (d:=46) 46 rfl];rfl
theorem lpart_any(c:UInt8)(w:World):Calls Tryz.prog 107 #[.int .u8 (c.toNat:Int)] w fun e w'=>e= .returned (.bool (isPt c))∧w=w':=by
 have hp:=pt_bytes c
 cases hl:isL c<;>cases hd:isD c<;>cases h3:((c.toNat:Int)==46)
 all_goals
  rw[hl,hd,h3] at hp
  have HP:=yH hp
  have HL:=yH hl
  have HD:=yH hd
  clear hp hl hd
  go_enter Tryz.func107,Tryz.ntmps107
  go_wp2_with (first
   |(go_at_call 117;(with_reducible refine(bool_at _ (lletter_any c _) HL).mono ?_);rintro e w' ⟨rfl,rfl⟩)
   |(go_at_call 118;(with_reducible refine(bool_at _ (ldigit_any c _) HD).mono ?_);rintro e w' ⟨rfl,rfl⟩))
  go_ret
  exact⟨ret_bool HP.out.symm,rfl⟩
theorem lsign_any(c:UInt8)(w:World):Calls Tryz.prog 102 #[.int .u8 (c.toNat:Int)] w fun e w'=>e= .returned (.bool (isSg c))∧w=w':=by
 have hp:=sg_bytes c
 cases h1:((c.toNat:Int)==40)<;>cases h2:((c.toNat:Int)==41)<;>cases h3:((c.toNat:Int)==44)
 all_goals
  rw[h1,h2,h3] at hp
  have HP:=yH hp
  clear hp
  go_enter Tryz.func102,Tryz.ntmps102
  go_wp2_with (fail)
  go_ret
  exact⟨ret_bool HP.out.symm,rfl⟩
theorem lblank_any(c:UInt8)(w:World):Calls Tryz.prog 84 #[.int .u8 (c.toNat:Int)] w fun e w'=>e= .returned (.bool (isBl c))∧w=w':=by
 have hp:=bl_bytes c
 cases h1:((c.toNat:Int)==32)<;>cases h2:((c.toNat:Int)==10)
 all_goals
  rw[h1,h2] at hp
  have HP:=yH hp
  clear hp
  go_enter Tryz.func84,Tryz.ntmps84
  go_wp2_with (fail)
  go_ret
  exact⟨ret_bool HP.out.symm,rfl⟩
theorem lit_eq{s:ByteArray}{l:List UInt8}(h:B l=s):(s.toList==l)=true:=by have:=list_of.2 h.symm;rwa [B_toList] at this
theorem lit_ne{s:ByteArray}{l:List UInt8}(h: ¬B l=s):(s.toList==l)=false:=by have:=list_ne (fun e=>h e.symm);rwa [B_toList] at this
theorem word_ways(s:ByteArray):
  ((s.toList==[108,111,119,101,115,116])=true∧isWord s.data.toList=true)∨
  ((s.toList==[108,111,119,101,115,116])=false∧(s.toList==[115,101,99,111,110,100])=true∧isWord s.data.toList=true)∨
  ((s.toList==[108,111,119,101,115,116])=false∧(s.toList==[115,101,99,111,110,100])=false∧(s.toList==[102,114,111,109])=true∧isWord s.data.toList=true)∨
  ((s.toList==[108,111,119,101,115,116])=false∧(s.toList==[115,101,99,111,110,100])=false∧(s.toList==[102,114,111,109])=false∧(s.toList==[108,101,115,115])=true∧isWord s.data.toList=true)∨
  ((s.toList==[108,111,119,101,115,116])=false∧(s.toList==[115,101,99,111,110,100])=false∧(s.toList==[102,114,111,109])=false∧(s.toList==[108,101,115,115])=false∧(s.toList==[99,117,116])=true∧isWord s.data.toList=true)∨
  ((s.toList==[108,111,119,101,115,116])=false∧(s.toList==[115,101,99,111,110,100])=false∧(s.toList==[102,114,111,109])=false∧(s.toList==[108,101,115,115])=false∧(s.toList==[99,117,116])=false∧(s.toList==[109,105,110])=true∧isWord s.data.toList=true)∨
  ((s.toList==[108,111,119,101,115,116])=false∧(s.toList==[115,101,99,111,110,100])=false∧(s.toList==[102,114,111,109])=false∧(s.toList==[108,101,115,115])=false∧(s.toList==[99,117,116])=false∧(s.toList==[109,105,110])=false∧(s.toList==[109,97,120])=true∧isWord s.data.toList=true)∨
  ((s.toList==[108,111,119,101,115,116])=false∧(s.toList==[115,101,99,111,110,100])=false∧(s.toList==[102,114,111,109])=false∧(s.toList==[108,101,115,115])=false∧(s.toList==[99,117,116])=false∧(s.toList==[109,105,110])=false∧(s.toList==[109,97,120])=false∧(s.toList==[101,108,115,101])=true∧isWord s.data.toList=true)∨
  ((s.toList==[108,111,119,101,115,116])=false∧(s.toList==[115,101,99,111,110,100])=false∧(s.toList==[102,114,111,109])=false∧(s.toList==[108,101,115,115])=false∧(s.toList==[99,117,116])=false∧(s.toList==[109,105,110])=false∧(s.toList==[109,97,120])=false∧(s.toList==[101,108,115,101])=false∧(s.toList==[105,102])=true∧isWord s.data.toList=true)∨
  ((s.toList==[108,111,119,101,115,116])=false∧(s.toList==[115,101,99,111,110,100])=false∧(s.toList==[102,114,111,109])=false∧(s.toList==[108,101,115,115])=false∧(s.toList==[99,117,116])=false∧(s.toList==[109,105,110])=false∧(s.toList==[109,97,120])=false∧(s.toList==[101,108,115,101])=false∧(s.toList==[105,102])=false∧(s.toList==[109,111,114,101])=true∧isWord s.data.toList=true)∨
  ((s.toList==[108,111,119,101,115,116])=false∧(s.toList==[115,101,99,111,110,100])=false∧(s.toList==[102,114,111,109])=false∧(s.toList==[108,101,115,115])=false∧(s.toList==[99,117,116])=false∧(s.toList==[109,105,110])=false∧(s.toList==[109,97,120])=false∧(s.toList==[101,108,115,101])=false∧(s.toList==[105,102])=false∧(s.toList==[109,111,114,101])=false∧(s.toList==[97,98,111,118,101])=true∧isWord s.data.toList=true)∨
  ((s.toList==[108,111,119,101,115,116])=false∧(s.toList==[115,101,99,111,110,100])=false∧(s.toList==[102,114,111,109])=false∧(s.toList==[108,101,115,115])=false∧(s.toList==[99,117,116])=false∧(s.toList==[109,105,110])=false∧(s.toList==[109,97,120])=false∧(s.toList==[101,108,115,101])=false∧(s.toList==[105,102])=false∧(s.toList==[109,111,114,101])=false∧(s.toList==[97,98,111,118,101])=false∧isWord s.data.toList=false):=by
 by_cases h0:B [108,111,119,101,115,116]=s
 ·exact .inl ⟨lit_eq h0,word_yes (j:=0) (by omega) h0⟩
 by_cases h1:B [115,101,99,111,110,100]=s
 ·exact .inr (.inl ⟨lit_ne h0,lit_eq h1,word_yes (j:=1) (by omega) h1⟩)
 by_cases h2:B [102,114,111,109]=s
 ·exact .inr (.inr (.inl ⟨lit_ne h0,lit_ne h1,lit_eq h2,word_yes (j:=2) (by omega) h2⟩))
 by_cases h3:B [108,101,115,115]=s
 ·exact .inr (.inr (.inr (.inl ⟨lit_ne h0,lit_ne h1,lit_ne h2,lit_eq h3,word_yes (j:=3) (by omega) h3⟩)))
 by_cases h4:B [99,117,116]=s
 ·exact .inr (.inr (.inr (.inr (.inl ⟨lit_ne h0,lit_ne h1,lit_ne h2,lit_ne h3,lit_eq h4,word_yes (j:=4) (by omega) h4⟩))))
 by_cases h5:B [109,105,110]=s
 ·exact .inr (.inr (.inr (.inr (.inr (.inl ⟨lit_ne h0,lit_ne h1,lit_ne h2,lit_ne h3,lit_ne h4,lit_eq h5,word_yes (j:=5) (by omega) h5⟩)))))
 by_cases h6:B [109,97,120]=s
 ·exact .inr (.inr (.inr (.inr (.inr (.inr (.inl ⟨lit_ne h0,lit_ne h1,lit_ne h2,lit_ne h3,lit_ne h4,lit_ne h5,lit_eq h6,word_yes (j:=6) (by omega) h6⟩))))))
 by_cases h7:B [101,108,115,101]=s
 ·exact .inr (.inr (.inr (.inr (.inr (.inr (.inr (.inl ⟨lit_ne h0,lit_ne h1,lit_ne h2,lit_ne h3,lit_ne h4,lit_ne h5,lit_ne h6,lit_eq h7,word_yes (j:=7) (by omega) h7⟩)))))))
 by_cases h8:B [105,102]=s
 ·exact .inr (.inr (.inr (.inr (.inr (.inr (.inr (.inr (.inl ⟨lit_ne h0,lit_ne h1,lit_ne h2,lit_ne h3,lit_ne h4,lit_ne h5,lit_ne h6,lit_ne h7,lit_eq h8,word_yes (j:=8) (by omega) h8⟩))))))))
 by_cases h9:B [109,111,114,101]=s
 ·exact .inr (.inr (.inr (.inr (.inr (.inr (.inr (.inr (.inr (.inl ⟨lit_ne h0,lit_ne h1,lit_ne h2,lit_ne h3,lit_ne h4,lit_ne h5,lit_ne h6,lit_ne h7,lit_ne h8,lit_eq h9,word_yes (j:=9) (by omega) h9⟩)))))))))
 by_cases h10:B [97,98,111,118,101]=s
 ·exact .inr (.inr (.inr (.inr (.inr (.inr (.inr (.inr (.inr (.inr (.inl ⟨lit_ne h0,lit_ne h1,lit_ne h2,lit_ne h3,lit_ne h4,lit_ne h5,lit_ne h6,lit_ne h7,lit_ne h8,lit_ne h9,lit_eq h10,word_yes (j:=10) (by omega) h10⟩))))))))))
 exact .inr (.inr (.inr (.inr (.inr (.inr (.inr (.inr (.inr (.inr (.inr (⟨lit_ne h0,lit_ne h1,lit_ne h2,lit_ne h3,lit_ne h4,lit_ne h5,lit_ne h6,lit_ne h7,lit_ne h8,lit_ne h9,lit_ne h10,word_no (fun j hj=>by
  rcases j with _|_|_|_|_|_|_|_|_|_|_|j
  ·exact h0
  ·exact h1
  ·exact h2
  ·exact h3
  ·exact h4
  ·exact h5
  ·exact h6
  ·exact h7
  ·exact h8
  ·exact h9
  ·exact h10
  ·omega)⟩)))))))))))
theorem lword_any(s:ByteArray)(w0 w:World)(hr:Rel w0 w):
  Calls Tryz.prog 103 #[.string s] w fun e w'=>e= .returned (.bool (isWord s.data.toList))∧Rel w0 w':=by
 rcases word_ways s with ⟨k0,hw⟩|⟨k0,k1,hw⟩|⟨k0,k1,k2,hw⟩|⟨k0,k1,k2,k3,hw⟩|⟨k0,k1,k2,k3,k4,hw⟩|⟨k0,k1,k2,k3,k4,k5,hw⟩|⟨k0,k1,k2,k3,k4,k5,k6,hw⟩|⟨k0,k1,k2,k3,k4,k5,k6,k7,hw⟩|⟨k0,k1,k2,k3,k4,k5,k6,k7,k8,hw⟩|⟨k0,k1,k2,k3,k4,k5,k6,k7,k8,k9,hw⟩|⟨k0,k1,k2,k3,k4,k5,k6,k7,k8,k9,k10,hw⟩|⟨k0,k1,k2,k3,k4,k5,k6,k7,k8,k9,k10,hw⟩
 all_goals
  have HW:=yH hw
  clear hw
  go_enter Tryz.func103,Tryz.ntmps103
  go_wp2_with (fail)
  go_ret
  exact⟨ret_bool HW.out.symm,hr⟩
theorem lname_list(l:List UInt8)(hl:l.length≤9223372036854775807)(w0 w:World)(hr:Rel w0 w):
  Calls Tryz.prog 104 #[.string (B l)] w fun e w'=>e= .returned (.bool (isName l))∧Rel w0 w':=by
 cases l with
 |nil=>
  have HT:=B_toList []
  go_enter Tryz.func104,Tryz.ntmps104
  go_wp2_with (fail)
  go_ret
  exact⟨ret_bool rfl,hr⟩
 |cons c t=>
  have HT:=B_toList (c::t)
  have HB:=B_cons_size c t
  have H0:=B_zero c t
  by_cases h12:t.length+1≤12
  ·have z: ¬(12:Int)<(t.length:Int)+1:=by omega
   cases hc:isL c
   ·have HF:=yH (show isName (c::t)=false by rw[name_eq,hc];simp)
    clear hl h12
    go_enter Tryz.func104,Tryz.ntmps104
    go_wp2_with (go_at_call 117;(with_reducible refine(bool_at false (lletter_any c _) (yH hc)).mono ?_);rintro e w' ⟨rfl,rfl⟩)
    go_ret
    exact⟨ret_bool HF.out.symm,hr⟩
   ·cases hw:isWord (c::t)
    ·have HC:=yH hc
     have HWd:=yH (show isWord (B (c::t)).data.toList=false by rw[B_list];exact hw)
     have HW0:=yH hw
     have HR:=yH hr
     clear hw hc
     go_enter Tryz.func104,Tryz.ntmps104
     go_wp2_with (first
      |(go_at_call 117;(with_reducible refine(bool_at true (lletter_any c _) HC).mono ?_);rintro e w' ⟨rfl,rfl⟩)
      |(go_at_call 103;(with_reducible refine(bool_at false (lword_any _ _ _ hr.self) HWd).mono ?_);rintro e w1 ⟨rfl,h1⟩))
     go_loopw [3,23] (fun _ i wr=>∃j:Nat,j≤t.length+1∧i= .int .i64 j∧Hid (((c::t).take j).all LD=true)∧wr=w1) (fun _ i _=>t.length+1-(RowKit.intOf i).toNat)
     case atStart=>exact⟨0,by omega,rfl,yH rfl,rfl⟩
     case round=>
      obtain⟨j,hj,rfl,HA,rfl⟩:=hrel
      by_cases hlt:j<t.length+1
      ·have hlt':j<(c::t).length:=by simpa using hlt
       obtain⟨x,hx⟩:∃x,x=(c::t)[j]:=⟨_,rfl⟩
       have hg:∀h,(B (c::t))[j]'h=x:=fun h=>by rw[hx];rfl
       have HX:=yH hx
       clear hx
       cases hL:isL x<;>cases hD:isD x
       ·have HF:=yH (show isName (c::t)=false by rw[name_eq,all_bad j hlt' (by rw[←HX.out];simp[LD,hL,hD])];simp)
        have HL:=yH hL
        have HD:=yH hD
        clear hL hD
        go_wp2_with (first
             |(go_at_call 117;(with_reducible refine(bool_at false (lletter_any x _) HL).mono ?_);rintro e w' ⟨rfl,rfl⟩)
             |(go_at_call 118;(with_reducible refine(bool_at false (ldigit_any x _) HD).mono ?_);rintro e w' ⟨rfl,rfl⟩))
        go_ret
        exact⟨ret_bool HF.out.symm,HR.out.trans h1⟩
       all_goals
        have HM:=yH (all_more j hlt' HA.out (by rw[←HX.out];simp[LD,hL,hD]))
        have HL:=yH hL
        have HD:=yH hD
        clear hL hD
        go_wp2_with (first
             |(go_at_call 117;(with_reducible refine(bool_at _ (lletter_any x _) HL).mono ?_);rintro e w' ⟨rfl,rfl⟩)
             |(go_at_call 118;(with_reducible refine(bool_at _ (ldigit_any x _) HD).mono ?_);rintro e w' ⟨rfl,rfl⟩))
        go_roundw
        case rel=>exact⟨j+1,by omega,by go_num,HM,trivial⟩
        case measure=>simp[RowKit.intOf];omega
      ·obtain rfl:j=t.length+1:=by omega
       have HY:=yH (show isName (c::t)=true by
        have ha:=HA.out
        rw[List.take_of_length_le (by simp)] at ha
        rw[name_eq,ha,HC.out,HW0.out,decide_eq_true h12];rfl)
       go_wp2_with (fail)
       go_ret
       exact⟨ret_bool HY.out.symm,HR.out.trans h1⟩
    ·have HC:=yH hc
     have HWd:=yH (show isWord (B (c::t)).data.toList=true by rw[B_list];exact hw)
     have HF:=yH (show isName (c::t)=false by rw[name_eq,hw];simp)
     clear hw hc
     go_enter Tryz.func104,Tryz.ntmps104
     go_wp2_with (first
      |(go_at_call 117;(with_reducible refine(bool_at true (lletter_any c _) HC).mono ?_);rintro e w' ⟨rfl,rfl⟩)
      |(go_at_call 103;(with_reducible refine(bool_at true (lword_any _ _ _ hr.self) HWd).mono ?_);rintro e w1 ⟨rfl,h1⟩))
     go_ret
     exact⟨ret_bool HF.out.symm,hr.trans h1⟩
  ·have HF:=yH (show isName (c::t)=false by rw[name_eq,decide_eq_false h12];simp)
   have z:(12:Int)<(t.length:Int)+1:=by omega
   clear h12
   go_enter Tryz.func104,Tryz.ntmps104
   go_wp2_with (fail)
   go_ret
   exact⟨ret_bool HF.out.symm,hr⟩
theorem lname_any(s:ByteArray)(hs:s.size≤9223372036854775807)(w0 w:World)(hr:Rel w0 w):
  Calls Tryz.prog 104 #[.string s] w fun e w'=>e= .returned (.bool (isName s.data.toList))∧Rel w0 w':=by
 have:=lname_list s.data.toList (by simpa using hs) w0 w hr
 rwa [B_of] at this
theorem pend_yes(V:World)(g a:Nat)(ts:List Tok)(w:World)(h:StP V w g ts a)(hc:(hdT ts).1=5):
  Calls Tryz.prog 77 #[.pointer (some ⟨g,0,none⟩)] w fun e w'=>e= .returned (.tuple #[])∧w.grownBy w' (some g):=by
 have HN:=yH (pnext_any V g a ts w h)
 have HV:=yH h.V
 obtain⟨⟨k,x,n,p⟩,ht⟩:∃t,hdT ts=t:=⟨_,rfl⟩
 rw[ht] at HN hc
 obtain rfl:k=5:=hc
 clear h ht
 go_enter Tryz.func77,Tryz.ntmps77
 go_wp2_with (go_at_call 95;(with_reducible refine HN.out.mono ?_);rintro e w2 ⟨rfl,s2,g2,_⟩;have G2:=yH g2;clear s2 g2)
 go_end0
 exact⟨rfl,grown_trans G2.out (grown_rel (some g) ((HV.out.1.grown G2.out (fun k e=>by cases e;exact HV.out.2)).self.alloc _))⟩
theorem pend_not(V:World)(g a:Nat)(ts:List Tok)(w:World)(h:StP V w g ts a)(hc:(hdT ts).1≠5):
  Calls Tryz.prog 77 #[.pointer (some ⟨g,0,none⟩)] w fun e w'=>e=FLT 80 (atT ts)∧w.grownBy w' (some g):=by
 have HN:=yH (pnext_any V g a ts w h)
 have HV:=yH h.V
 obtain⟨t,ht⟩:∃t,hdT ts=t:=⟨_,rfl⟩
 have HA:=yH (show atT ts=t.2.2.2 by unfold atT;rw[ht])
 rw[ht] at HN hc
 have hb:(t.1==5)=false:=by simpa using hc
 have hb':(t.1 !=5)=true:=by simpa using hc
 clear h ht hc
 go_enter Tryz.func77,Tryz.ntmps77
 go_wp2_with (first
  |(go_at_call 95;(with_reducible refine HN.out.mono ?_);rintro e w2 ⟨rfl,s2,g2,_⟩;have G2:=yH g2;clear s2 g2)
  |(go_at_call 94;(with_reducible refine(pwrong_any t _).mono ?_);rintro e w3 ⟨rfl,rfl⟩))
 exact⟨rfl,by rw[HA.out],fail_grown G2.out V (HV.out.1.grown G2.out (fun k e=>by cases e;exact HV.out.2)) _ _ _⟩
theorem pnum_yes(V:World)(g a:Nat)(ts:List Tok)(k m n:Int)(w:World)(h:StP V w g ts a)(hk:k≠5)(hn:numP k m ts= .ok (n,ts.tail)):
  Calls Tryz.prog 110 #[.pointer (some ⟨g,0,none⟩),.int .i64 k,.int .i64 m] w fun e w'=>e= .returned (.int .i64 n)∧StP V w' g ts.tail a∧w.grownBy w' (some g):=by
 have HN:=yH (pnext_any V g a ts w h)
 have hq:(hdT ts).1=k∧(hdT ts).2.2.1≤m∧(hdT ts).2.2.1=n:=by
  unfold numP at hn
  split at hn
  ·rename_i hh;injection hn with hn;injection hn with e _;exact⟨hh.1,hh.2,e⟩
  ·cases hn
 have HT:=yH (h.fine.last (.inl (by rw[hq.1];exact hk)))
 obtain⟨⟨k',x,n',p⟩,ht⟩:∃t,hdT ts=t:=⟨_,rfl⟩
 rw[ht] at HN hq
 obtain⟨q1,q2,q3⟩:=hq
 obtain rfl:k'=k:=q1
 obtain rfl:n'=n:=q3
 have hb:decide (m<n')=false:=by simpa using q2
 clear h ht hn hk q2
 go_enter Tryz.func110,Tryz.ntmps110
 go_wp2_with (go_at_call 95;(with_reducible refine HN.out.mono ?_);rintro e w2 ⟨rfl,s2,g2,_⟩;have S2:=yH s2;have G2:=yH g2;clear s2 g2)
 go_ret
 have R:=(S2.out HT.out).V.1.self.alloc (.cells #[.int .i64 k',.string (B x),.int .i64 n',.int .i64 p] 87)
 exact⟨rfl,(S2.out HT.out).rel R,grown_trans G2.out (grown_rel (some g) R)⟩
theorem pnum_not(V:World)(g a:Nat)(ts:List Tok)(k m:Int)(w:World)(h:StP V w g ts a)(hn:numP k m ts= .error (80,atT ts)):
  Calls Tryz.prog 110 #[.pointer (some ⟨g,0,none⟩),.int .i64 k,.int .i64 m] w fun e w'=>e=FLT 80 (atT ts)∧w.grownBy w' (some g):=by
 have HN:=yH (pnext_any V g a ts w h)
 have HV:=yH h.V
 have hq:(hdT ts).1≠k∨((hdT ts).1=k∧m<(hdT ts).2.2.1):=by
  unfold numP at hn
  split at hn
  ·cases hn
  ·rename_i hh
   by_cases e:(hdT ts).1=k
   ·exact .inr ⟨e,by have:=fun h'=>hh ⟨e,h'⟩;omega⟩
   ·exact .inl e
 obtain⟨t,ht⟩:∃t,hdT ts=t:=⟨_,rfl⟩
 have HA:=yH (show atT ts=t.2.2.2 by unfold atT;rw[ht])
 rw[ht] at HN hq
 clear h ht hn
 rcases hq with hq|⟨hq,hm⟩
 ·have hb:(t.1==k)=false:=by simpa using hq
  have hb':(t.1 !=k)=true:=by simpa using hq
  clear hq
  go_enter Tryz.func110,Tryz.ntmps110
  go_wp2_with (first
   |(go_at_call 95;(with_reducible refine HN.out.mono ?_);rintro e w2 ⟨rfl,s2,g2,_⟩;have G2:=yH g2;clear s2 g2)
   |(go_at_call 94;(with_reducible refine(pwrong_any t _).mono ?_);rintro e w3 ⟨rfl,rfl⟩))
  exact⟨rfl,by rw[HA.out],fail_grown G2.out V (HV.out.1.grown G2.out (fun k e=>by cases e;exact HV.out.2)) _ _ _⟩
 ·obtain⟨k',x,n',p⟩:=t
  obtain rfl:k'=k:=hq
  have hb:decide (m<n')=true:=by simpa using hm
  clear hm
  go_enter Tryz.func110,Tryz.ntmps110
  go_wp2_with (first
   |(go_at_call 95;(with_reducible refine HN.out.mono ?_);rintro e w2 ⟨rfl,s2,g2,_⟩;have G2:=yH g2;clear s2 g2)
   |(go_at_call 94;(with_reducible refine(pwrong_any (k',x,n',p) _).mono ?_);rintro e w3 ⟨rfl,rfl⟩))
  exact⟨rfl,by rw[HA.out],fail_grown G2.out V (HV.out.1.grown G2.out (fun k e=>by cases e;exact HV.out.2)) _ _ _⟩
theorem pbegin_yes(V:World)(g a:Nat)(ts:List Tok)(w:World)(h:StP V w g ts a)(ha:a<32):
  Calls Tryz.prog 87 #[.pointer (some ⟨g,0,none⟩)] w fun e w'=>e= .returned (TK (hdT ts))∧(ts.tail≠[]→StP V w' g ts.tail a)∧w.grownBy w' (some g):=by
 have hA:=h.V.1.self.alloc (.cells #[.int .i64 0,.string ⟨#[]⟩,.int .i64 0,.int .i64 0] 87)
 have HN:=yH (pnext_any V g a ts _ (h.rel hA))
 have HA:=yH hA
 have HV:=yH h.V
 have hgl:=h.lt
 have HX:=yH (Bk.new w 87 #[.int .i64 0,.string ⟨#[]⟩,.int .i64 0,.int .i64 0])
 obtain⟨t,ht⟩:∃t,hdT ts=t:=⟨_,rfl⟩
 rw[ht] at HN⊢
 have hb:decide (32≤(a:Int))=false:=by simp;omega
 clear h ht hA
 go_enter Tryz.func87,Tryz.ntmps87
 go_wp2_with (go_at_call 95;(with_reducible refine HN.out.mono ?_);rintro e w2 ⟨rfl,s2,g2,S,b2⟩;have S2:=yH s2;have G2:=yH g2;have X2:=HX.out.grown g2 (fun e=>by injection e;omega);obtain⟨⟨_,c1⟩,_⟩:=b2.two;obtain⟨⟨d0,d1,d2,d3⟩,u0,u1,u2,u3⟩:=X2.four;have hz2:=g2.size;simp only[World.size_alloc] at hz2;have hgl2:g<w2.heap.size:=(by omega);have hgl3:w.heap.size<w2.heap.size:=(by omega);have HX2:=yH X2;clear s2 g2 X2)
 have gp:=put4_grown w2 w.heap.size (.int .i64 t.1) (.string (B t.2.1)) (.int .i64 t.2.2.1) (.int .i64 t.2.2.2)
 have RV:=(HV.out.1.trans HA.out).grown G2.out (fun k e=>by cases e;exact HV.out.2)
 have RP:=RV.grown gp (fun k e=>by cases e;exact HV.out.1.size)
 have R:=RP.self.alloc (.cells #[.int .i64 t.1,.string (B t.2.1),.int .i64 t.2.2.1,.int .i64 t.2.2.2] 87)
 obtain⟨⟨y0,y1,y2,y3⟩,_⟩:=((HX2.out.put4 (.int .i64 t.1) (.string (B t.2.1)) (.int .i64 t.2.2.1) (.int .i64 t.2.2.2)).rel R).four
 obtain⟨W,hW⟩:∃W,(((((w2.setCell ⟨w.heap.size,0,none⟩ (.int .i64 t.1)).setCell ⟨w.heap.size,1,none⟩ (.string (B t.2.1))).setCell ⟨w.heap.size,2,none⟩ (.int .i64 t.2.2.1)).setCell ⟨w.heap.size,3,none⟩ (.int .i64 t.2.2.2)).alloc (.cells #[.int .i64 t.1,.string (B t.2.1),.int .i64 t.2.2.1,.int .i64 t.2.2.2] 87))=W:=⟨_,rfl⟩
 rw[hW] at y0 y1 y2 y3 R⊢
 refine bodyPost_ret (v:=TK t) (by simp[results,Tryz.results87,go_sem,y0,y1,y2,y3]) rfl ⟨rfl,fun hn=> ?_, ?_⟩
 ·exact((S2.out hn).grown gp (fun e=>by injection e;omega) (fun k e=>by cases e;exact HV.out.1.size)).rel R
 ·exact grown_of (grown_of (grown_trans (grown_rel (some g) HA.out) G2.out) gp (fun k e=>by cases e;exact Nat.le_refl _)) (grown_rel none R) (fun k e=>by cases e)
theorem pbegin_not(V:World)(g a:Nat)(ts:List Tok)(w:World)(h:StP V w g ts a)(ha:32≤a):
  Calls Tryz.prog 87 #[.pointer (some ⟨g,0,none⟩)] w fun e w'=>e=FLT 81 (atT ts)∧w.grownBy w' (some g):=by
 have hA:=h.V.1.self.alloc (.cells #[.int .i64 0,.string ⟨#[]⟩,.int .i64 0,.int .i64 0] 87)
 have HN:=yH (pnext_any V g a ts _ (h.rel hA))
 have HA:=yH hA
 have HV:=yH h.V
 have hgl:=h.lt
 obtain⟨t,ht⟩:∃t,hdT ts=t:=⟨_,rfl⟩
 have HAt:=yH (show atT ts=t.2.2.2 by unfold atT;rw[ht])
 rw[ht] at HN
 have hb:decide (32≤(a:Int))=true:=by simp;omega
 clear h ht hA
 go_enter Tryz.func87,Tryz.ntmps87
 go_wp2_with (go_at_call 95;(with_reducible refine HN.out.mono ?_);rintro e w2 ⟨rfl,s2,g2,S,b2⟩;have G2:=yH g2;obtain⟨⟨_,c1⟩,_⟩:=b2.two;have hz2:=g2.size;simp only[World.size_alloc] at hz2;have hgl2:g<w2.heap.size:=(by omega);clear s2 g2)
 have RV:=(HV.out.1.trans HA.out).grown G2.out (fun k e=>by cases e;exact HV.out.2)
 exact⟨rfl,by rw[HAt.out],grown_trans (grown_trans (grown_rel (some g) HA.out) G2.out) (grown_rel (some g) (RV.self.alloc _))⟩
end Go.Proofs.YtjhjdiaomnpkmaaGreatDoor

namespace Go.Proofs.YtjhjdiaomnpkmaaGreatDoor
open Go
section
variable {P:Program} {ops:Array Oper} {Q:Exit→Act→World→Prop} {md:Region.Mode} {S:World→Prop}
def waitsB(md:Region.Mode)(ops:Array Oper)(j i:Nat):Bool:=((ops[j]?).map fun o=>o.after.any fun e=>Region.binds md e&&(e.on==i)).getD false
def wpTill(P:Program)(md:Region.Mode)(ops:Array Oper)(Q:Exit→Act→World→Prop)(S:World→Prop)(i:Nat):Nat→Array Bool→Act→World→Prop
 |0,listed,a,w=>Region.ready md ops listed=[]∧Q .normal a w
 |fuel+1,listed,a,w=>
  (Region.ready md ops listed=[]→Q .normal a w)∧
  ∀j∈Region.ready md ops listed,wpOp P ops Q j (fun a' w'=>(waitsB md ops j i=false→S w')∧wpTill P md ops Q S i fuel (listed.setIfInBounds j true) a' w') a w
theorem any_of_till{i:Nat}:∀(fuel:Nat)(listed:Array Bool)(a:Act)(w:World),wpTill P md ops Q S i fuel listed a w→wpAny P md ops Q fuel listed a w
 |0,_,_,_,h=>h
 |fuel+1,_,_,_,h=>⟨h.1,fun j hj=>wpOp_mono (fun a' w' h'=>any_of_till fuel _ a' w' h'.2) (h.2 j hj)⟩
theorem ready_iff{listed:Array Bool}{j:Nat}:j∈Region.ready md ops listed↔j<ops.size∧listed.getD j true=false∧∃o,ops[j]?=some o∧∀e∈o.after,Region.binds md e=true→listed.getD e.on false=true:=by
 unfold Region.ready
 rw[List.mem_filter,List.mem_range]
 constructor
 ·rintro⟨h1,h2⟩
  rw[Array.getElem?_eq_getElem h1] at h2⊢
  simp only[Option.map_some,Option.getD_some,Bool.and_eq_true,Bool.not_eq_true',Array.all_eq_true_iff_forall_mem,Bool.or_eq_true] at h2
  refine⟨h1,h2.1,_,rfl,fun e he hb=> ?_⟩
  rcases h2.2 e he with h|h
  ·rw[hb] at h;cases h
  ·exact h
 ·rintro⟨h1,h2,o,ho,h3⟩
  refine⟨h1, ?_⟩
  rw[ho]
  simp only[Option.map_some,Option.getD_some,Bool.and_eq_true,Bool.not_eq_true',Array.all_eq_true_iff_forall_mem,Bool.or_eq_true]
  refine⟨h2,fun e he=> ?_⟩
  cases hb:Region.binds md e
  ·exact .inl rfl
  ·exact .inr (h3 e he hb)
theorem set_get{listed:Array Bool}{i j:Nat}{d:Bool}(h:j≠i):(listed.setIfInBounds i true).getD j d=listed.getD j d:=by
 simp[Array.getD_eq_getD_getElem?,Array.getElem?_setIfInBounds,Ne.symm h]
theorem set_mono{listed:Array Bool}{i j:Nat}(h:listed.getD j false=true):(listed.setIfInBounds i true).getD j false=true:=by
 by_cases e:j=i
 ·subst e
  have hl:j<listed.size:=by
   rcases Nat.lt_or_ge j listed.size with h'|h'
   ·exact h'
   ·simp[Array.getD_eq_getD_getElem?,Array.getElem?_eq_none h'] at h
  simp[Array.getD_eq_getD_getElem?,Array.getElem?_setIfInBounds,hl]
 ·rw[set_get e];exact h
theorem ready_set{listed:Array Bool}{i j:Nat}(hj:j∈Region.ready md ops listed)(h:j≠i):j∈Region.ready md ops (listed.setIfInBounds i true):=by
 obtain⟨h1,h2,o,ho,h3⟩:=ready_iff.1 hj
 exact ready_iff.2 ⟨h1,by rw[set_get h];exact h2,o,ho,fun e he hb=>set_mono (h3 e he hb)⟩
theorem ready_waits{listed:Array Bool}{i j:Nat}(hi:i∈Region.ready md ops listed)(hj:j∈Region.ready md ops listed):waitsB md ops j i=false:=by
 obtain⟨_,h2,_⟩:=ready_iff.1 hi
 obtain⟨_,_,o,ho,h3⟩:=ready_iff.1 hj
 unfold waitsB
 rw[ho]
 simp only[Option.map_some,Option.getD_some]
 rw[Array.any_eq_false']
 intro e he hc
 simp only[Bool.and_eq_true,beq_iff_eq] at hc
 have:=h3 e he hc.1
 rw[hc.2] at this
 rcases Nat.lt_or_ge i listed.size with h'|h'
 ·simp[Array.getD_eq_getD_getElem?,Array.getElem?_eq_getElem h'] at this h2
  rw[this] at h2;cases h2
 ·simp[Array.getD_eq_getD_getElem?,Array.getElem?_eq_none h'] at this
theorem till_first{i:Nat}{oi:Oper}{v:Value}(hi:ops[i]?=some oi)(hsel:∀(j:Nat)(o:Oper) cs b,ops[j]?=some o→o.op≠ .select cs b)
  (hQ:∀c a w,Q (.panic c) (a.put oi.dst v) w→Q (.panic c) a w):
  ∀(fuel:Nat)(listed:Array Bool)(a:Act)(w:World),
   (∀j oj,ops[j]?=some oj→j≠i→listed.getD j true=false→(∀e∈oj.after,Region.binds md e=true→e.on≠i)→oi.apart ops oj=true)→
   i∈Region.ready md ops listed→YieldsIf P ops S oi v a→S w→
   wpTill P md ops Q S i fuel (listed.setIfInBounds i true) (a.put oi.dst v) w→wpAny P md ops Q (fuel+1) listed a w:=by
 intro fuel
 induction fuel with
 |zero=>
  intro listed a w hap hir hy hS h
  refine⟨(fun e=>by rw[e] at hir;cases hir),fun j hj=> ?_⟩
  by_cases hji:j=i
  ·subst hji;exact hy.wpOp hi hS (any_of_till 0 _ _ _ h)
  ·have:=ready_set hj hji
   rw[h.1] at this;cases this
 |succ f ih=>
  intro listed a w hap hir hy hS h
  refine⟨(fun e=>by rw[e] at hir;cases hir),fun j hj=> ?_⟩
  by_cases hji:j=i
  ·subst hji;exact hy.wpOp hi hS (any_of_till (f+1) _ _ _ h)
  ·have hw:=ready_waits hir hj
   obtain⟨_,hjl,oj,hoj,hjw⟩:=ready_iff.1 hj
   have hnot:∀e∈oj.after,Region.binds md e=true→e.on≠i:=by
    intro e he hb hc
    unfold waitsB at hw
    rw[hoj] at hw
    simp only[Option.map_some,Option.getD_some] at hw
    rw[Array.any_eq_false'] at hw
    exact hw e he (by simp[hb,hc])
   have h1:=wpOp_putIf hoj (hap j oj hoj hji hjl hnot) (fun cs b=>hsel i oi cs b hi) (fun cs b=>hsel j oj cs b hoj) hQ hy (h.2 j (ready_set hj hji))
   refine wpOp_mono (fun a' w' h'=> ?_) h1
   obtain⟨hy',hS',ht⟩:=h'
   refine ih (listed.setIfInBounds j true) a' w' (fun q oq hq hqi hql hqe=>hap q oq hq hqi ?_ hqe) (ready_set hir (Ne.symm hji)) hy' (hS' hw) ?_
   ·by_cases e:q=j
    ·subst e;exact hjl
    ·rw[set_get e] at hql;exact hql
   ·rw[Array.setIfInBounds_comm _ _ (Ne.symm hji)] at ht
    exact ht
theorem till_take{i:Nat}{oi:Oper}{v:Value}(d:Option Tmp){fuel:Nat}{listed:Array Bool}{a:Act}{w:World}(hi:ops[i]?=some oi)(hd:oi.dst=d)
  (hs:Region.noSelect ops=true) (hf:Region.free md ops listed i=true) (hr:(Region.ready md ops listed).contains i=true)
  (hQ:∀c a w,Q (.panic c) (a.put d v) w→Q (.panic c) a w) (hy:YieldsIf P ops S oi v a) (hS:S w)
  (h:wpTill P md ops Q S i fuel (listed.setIfInBounds i true) (a.put d v) w):wpAny P md ops Q (fuel+1) listed a w:=by
 subst hd
 exact till_first hi (Region.noSelect_spec hs) hQ fuel listed a w (Region.free_spec hi hf) (by simpa using hr) hy hS h
theorem any_take{i:Nat}{oi:Oper}{v:Value}(d:Option Tmp){fuel:Nat}{listed:Array Bool}{a:Act}{w:World}(hi:ops[i]?=some oi)(hd:oi.dst=d)
  (hs:Region.noSelect ops=true) (hf:Region.free md ops listed i=true) (hr:(Region.ready md ops listed).contains i=true)
  (hQ:∀c a w,Q (.panic c) (a.put d v) w→Q (.panic c) a w) (hy:Yields P ops oi v a)
  (h:wpAny P md ops Q fuel (listed.setIfInBounds i true) (a.put d v) w):wpAny P md ops Q (fuel+1) listed a w:=by
 subst hd
 exact wpAny_take hi hs hf hr hQ hy h
theorem till_one{i j:Nat}{o:Oper}{fuel:Nat}{listed:Array Bool}{a:Act}{w:World}(hr:Region.ready md ops listed=[j])(ho:ops[j]?=some o)
  (h:∀K':Act→World→Prop,Shut (∀a w,S w→wpTill P md ops Q S i fuel (listed.setIfInBounds j true) a w→K' a w)→if Region.wanted o (yielded ops a.tmps)=true then Oper.wp P o a w K' Q else K' (a.put o.dst undef) w):wpTill P md ops Q S i (fuel+1) listed a w:=
 ⟨(fun h0=>by rw[hr] at h0;cases h0),fun q hq=>by rw[hr,List.mem_singleton] at hq;subst hq;exact wpOp_step ho (fun K' hK=>h K' (fun a w hS hW=>hK a w ⟨fun _=>hS,hW⟩))⟩
theorem till_late{i j:Nat}{o:Oper}{fuel:Nat}{listed:Array Bool}{a:Act}{w:World}(hr:Region.ready md ops listed=[j])(ho:ops[j]?=some o)(hw:waitsB md ops j i=true)
  (h:∀K':Act→World→Prop,Shut (∀a w,wpTill P md ops Q S i fuel (listed.setIfInBounds j true) a w→K' a w)→if Region.wanted o (yielded ops a.tmps)=true then Oper.wp P o a w K' Q else K' (a.put o.dst undef) w):wpTill P md ops Q S i (fuel+1) listed a w:=
 ⟨(fun h0=>by rw[hr] at h0;cases h0),fun q hq=>by rw[hr,List.mem_singleton] at hq;subst hq;exact wpOp_step ho (fun K' hK=>h K' (fun a w hW=>hK a w ⟨(fun e=>by rw[hw] at e;cases e),hW⟩))⟩
theorem till_done{i:Nat}{listed:Array Bool}{a:Act}{w:World}(hr:Region.ready md ops listed=[])(h:Q .normal a w):∀fuel,wpTill P md ops Q S i fuel listed a w
 |0=>⟨hr,h⟩
 |_+1=>⟨fun _=>h,by rw[hr];simp⟩
end
section
variable {P:Program} {ops:Array Oper} {Q:Exit→Act→World→Prop} {md:Region.Mode} {S:World→Prop}
theorem till_two{i j k:Nat}{o o':Oper}{fuel:Nat}{listed:Array Bool}{a:Act}{w:World}(hr:Region.ready md ops listed=[j,k])(ho:ops[j]?=some o)(ho':ops[k]?=some o')
  (h:∀K':Act→World→Prop,Shut (∀a w,S w→wpTill P md ops Q S i fuel (listed.setIfInBounds j true) a w→K' a w)→if Region.wanted o (yielded ops a.tmps)=true then Oper.wp P o a w K' Q else K' (a.put o.dst undef) w)
  (h':∀K':Act→World→Prop,Shut (∀a w,S w→wpTill P md ops Q S i fuel (listed.setIfInBounds k true) a w→K' a w)→if Region.wanted o' (yielded ops a.tmps)=true then Oper.wp P o' a w K' Q else K' (a.put o'.dst undef) w):wpTill P md ops Q S i (fuel+1) listed a w:=
 ⟨(fun h0=>by rw[hr] at h0;cases h0),fun q hq=>by
   rw[hr] at hq
   rcases List.mem_cons.1 hq with rfl|hq
   ·exact wpOp_step ho (fun K' hK=>h K' (fun a w hS hW=>hK a w ⟨fun _=>hS,hW⟩))
   ·rw[List.mem_singleton] at hq;subst hq
    exact wpOp_step ho' (fun K' hK=>h' K' (fun a w hS hW=>hK a w ⟨fun _=>hS,hW⟩))⟩
theorem till_quiet{q i:Nat}{oi:Oper}{v:Value}(hi:ops[q]?=some oi)(hsel:∀(j:Nat)(o:Oper) cs b,ops[j]?=some o→o.op≠ .select cs b)
  (hQ:∀c a w,Q (.panic c) (a.put oi.dst v) w→Q (.panic c) a w) (hwq:waitsB md ops q i=true):
  ∀(fuel:Nat)(listed:Array Bool)(a:Act)(w:World),
   (∀j oj,ops[j]?=some oj→j≠q→listed.getD j true=false→(∀e∈oj.after,Region.binds md e=true→e.on≠q)→oi.apart ops oj=true)→
   q∈Region.ready md ops listed→YieldsIf P ops (fun _=>True) oi v a→
   wpTill P md ops Q S i fuel (listed.setIfInBounds q true) (a.put oi.dst v) w→wpTill P md ops Q S i (fuel+1) listed a w:=by
 intro fuel
 induction fuel with
 |zero=>
  intro listed a w hap hir hy h
  refine⟨(fun e=>by rw[e] at hir;cases hir),fun j hj=> ?_⟩
  by_cases hji:j=q
  ·subst hji;exact hy.wpOp hi trivial ⟨(fun e=>by rw[hwq] at e;cases e),h⟩
  ·have:=ready_set hj hji
   rw[h.1] at this;cases this
 |succ f ih=>
  intro listed a w hap hir hy h
  refine⟨(fun e=>by rw[e] at hir;cases hir),fun j hj=> ?_⟩
  by_cases hji:j=q
  ·subst hji;exact hy.wpOp hi trivial ⟨(fun e=>by rw[hwq] at e;cases e),h⟩
  ·have hw:=ready_waits hir hj
   obtain⟨_,hjl,oj,hoj,hjw⟩:=ready_iff.1 hj
   have hnot:∀e∈oj.after,Region.binds md e=true→e.on≠q:=by
    intro e he hb hc
    unfold waitsB at hw
    rw[hoj] at hw
    simp only[Option.map_some,Option.getD_some] at hw
    rw[Array.any_eq_false'] at hw
    exact hw e he (by simp[hb,hc])
   have h1:=wpOp_putIf hoj (hap j oj hoj hji hjl hnot) (fun cs b=>hsel q oi cs b hi) (fun cs b=>hsel j oj cs b hoj) hQ hy (h.2 j (ready_set hj hji))
   refine wpOp_mono (fun a' w' h'=> ?_) h1
   obtain⟨hy',hS',ht⟩:=h'
   refine⟨hS',ih (listed.setIfInBounds j true) a' w' (fun p oq hq hqi hql hqe=>hap p oq hq hqi ?_ hqe) (ready_set hir (Ne.symm hji)) hy' ?_⟩
   ·by_cases e:p=j
    ·subst e;exact hjl
    ·rw[set_get e] at hql;exact hql
   ·rw[Array.setIfInBounds_comm _ _ (Ne.symm hji)] at ht
    exact ht
theorem till_move{q i:Nat}{oi:Oper}{v:Value}(d:Option Tmp){fuel:Nat}{listed:Array Bool}{a:Act}{w:World}(hi:ops[q]?=some oi)(hd:oi.dst=d)(hwq:waitsB md ops q i=true)
  (hs:Region.noSelect ops=true) (hf:Region.free md ops listed q=true) (hr:(Region.ready md ops listed).contains q=true)
  (hQ:∀c a w,Q (.panic c) (a.put d v) w→Q (.panic c) a w) (hy:Yields P ops oi v a)
  (h:wpTill P md ops Q S i fuel (listed.setIfInBounds q true) (a.put d v) w):wpTill P md ops Q S i (fuel+1) listed a w:=by
 subst hd
 exact till_quiet hi (Region.noSelect_spec hs) hQ hwq fuel listed a w (Region.free_spec hi hf) (by simpa using hr) hy.yieldsIf h
theorem till_any{i:Nat}:∀(fuel:Nat)(listed:Array Bool)(a:Act)(w:World),(∀j∈List.range ops.size,listed.getD j true=false→waitsB md ops j i=true)→wpAny P md ops Q fuel listed a w→wpTill P md ops Q S i fuel listed a w
 |0,_,_,_,_,h=>h
 |fuel+1,listed,a,w,hw,h=>⟨h.1,fun j hj=>wpOp_mono (fun a' w' h'=>by
   obtain⟨h1,h2,_⟩:=ready_iff.1 hj
   refine⟨fun e=> ?_,till_any fuel _ a' w' (fun q hq hl=>hw q hq ?_) h'⟩
   ·rw[hw j (List.mem_range.2 h1) h2] at e
    cases e
   ·by_cases e:q=j
    ·subst e;exact h2
    ·rw[set_get e] at hl;exact hl) (h.2 j hj)⟩
theorem till_rest{i fuel:Nat}{listed:Array Bool}{a:Act}{w:World}(hw:((List.range ops.size).all fun j=>listed.getD j true||waitsB md ops j i)=true)(h:wpAny P md ops Q fuel listed a w):wpTill P md ops Q S i fuel listed a w:=
 till_any fuel listed a w (fun j hj hl=>by
  have:=List.all_eq_true.1 hw j hj
  rw[hl,Bool.false_or] at this
  exact this) h
theorem any_one{j:Nat}{o:Oper}{fuel:Nat}{listed:Array Bool}{a:Act}{w:World}(hr:Region.ready md ops listed=[j])(ho:ops[j]?=some o)
  (h:∀K':Act→World→Prop,Shut (∀a w,wpAny P md ops Q fuel (listed.setIfInBounds j true) a w→K' a w)→if Region.wanted o (yielded ops a.tmps)=true then Oper.wp P o a w K' Q else K' (a.put o.dst undef) w):wpAny P md ops Q (fuel+1) listed a w:=
 ⟨(fun h0=>by rw[hr] at h0;cases h0),fun q hq=>by rw[hr,List.mem_singleton] at hq;subst hq;exact wpOp_step ho (fun K' hK=>h K' (fun a w hW=>hK a w hW))⟩
theorem any_two{j k:Nat}{o o':Oper}{fuel:Nat}{listed:Array Bool}{a:Act}{w:World}(hr:Region.ready md ops listed=[j,k])(ho:ops[j]?=some o)(ho':ops[k]?=some o')
  (h:∀K':Act→World→Prop,Shut (∀a w,wpAny P md ops Q fuel (listed.setIfInBounds j true) a w→K' a w)→if Region.wanted o (yielded ops a.tmps)=true then Oper.wp P o a w K' Q else K' (a.put o.dst undef) w)
  (h':∀K':Act→World→Prop,Shut (∀a w,wpAny P md ops Q fuel (listed.setIfInBounds k true) a w→K' a w)→if Region.wanted o' (yielded ops a.tmps)=true then Oper.wp P o' a w K' Q else K' (a.put o'.dst undef) w):wpAny P md ops Q (fuel+1) listed a w:=
 ⟨(fun h0=>by rw[hr] at h0;cases h0),fun q hq=>by
   rw[hr] at hq
   rcases List.mem_cons.1 hq with rfl|hq
   ·exact wpOp_step ho (fun K' hK=>h K' (fun a w hW=>hK a w hW))
   ·rw[List.mem_singleton] at hq;subst hq
    exact wpOp_step ho' (fun K' hK=>h' K' (fun a w hW=>hK a w hW))⟩
theorem any_done{listed:Array Bool}{a:Act}{w:World}(hr:Region.ready md ops listed=[])(h:Q .normal a w):∀fuel,wpAny P md ops Q fuel listed a w
 |0=>⟨hr,h⟩
 |_+1=>⟨fun _=>h,by rw[hr];simp⟩
end
end Go.Proofs.YtjhjdiaomnpkmaaGreatDoor

namespace Go.Proofs.YtjhjdiaomnpkmaaGreatDoor
open Go.RowKit Go.Lib
def XP(gx:Nat)(w:World)(x:Ex)(A:Option Addr)(c:Nat)(es:List El):Prop:=
 Bk w gx 54 #[.int .i64 x.k,.int .i64 x.n,.string (B x.nm),.slice A es.length c]∧w.ownsRow (gx+1) 54 4 (.slice A es.length c) es.length (cellsEs es)∧es.length=x.l.length∧
  (∀i (h:i<es.length) (h':i<x.l.length),ExAt (fun q=>gx<q∧some q≠(Value.slice A es.length c).ownBlock) w es[i] x.l[i])∧i64 x.k∧i64 x.n∧x.nm.length≤100∧x.l.length≤3
theorem XP.grown{gx g:Nat}{w w':World}{x:Ex}{A:Option Addr}{c:Nat}{es:List El}(h:XP gx w x A c es)(hg:w.grownBy w' (some g))(hl:g<gx):XP gx w' x A c es:=by
 obtain⟨h1,h2,h3,h4,h5⟩:=h
 refine⟨h1.grown hg (fun e=>by injection e;omega),World.ownsRow.kept h2 hg ?_,h3,fun i hi hi'=>(h4 i hi hi').grown hg (fun q hq=>⟨hq,fun e=>by injection e;omega⟩),h5⟩
 cases hv:(Value.slice A es.length c).ownBlock with
 |none=>exact .inl rfl
 |some q=>exact .inr (fun e=>by have:=(h2.lt q hv).1;injection e;omega)
theorem XP.set{gx:Nat}{w:World}{x:Ex}{A:Option Addr}{c:Nat}{es:List El}(h:XP gx w x A c es)(o:Nat)(v:Value)(y:Ex)(hy:(#[.int .i64 x.k,.int .i64 x.n,.string (B x.nm),.slice A es.length c]:Array Value).setIfInBounds o v= #[.int .i64 y.k,.int .i64 y.n,.string (B y.nm),.slice A es.length c])
  (hl:y.l=x.l) (hk:i64 y.k) (hn:i64 y.n) (hm:y.nm.length≤100):XP gx (w.setCell ⟨gx,o,none⟩ v) y A c es:=by
 obtain⟨h1,h2,h3,h4,h5⟩:=h
 have gs:=set_grown w gx o v
 refine⟨by rw[←hy];exact h1.set_ o v,own_set h2 (fun e=>by have:=(h2.lt _ e.symm).1;simp only at this;omega) v,by rw[hl];exact h3,fun i hi hi'=> ?_,hk,hn,hm,by rw[hl];exact h5.2.2.2⟩
 simp only[hl]
 exact(h4 i hi (by rw[←hl];exact hi')).grown gs (fun q hq=>⟨hq,fun e=>by injection e;omega⟩)
theorem XP.lt{gx:Nat}{w:World}{x:Ex}{A:Option Addr}{c:Nat}{es:List El}(h:XP gx w x A c es):gx<w.heap.size:=h.1.lt
def InP(V U w:World)(g gx a:Nat)(x:Ex)(ts:List Tok):Prop:=StP V w g ts a∧g<U.heap.size∧U.heap.size≤gx∧U.grownBy w (some g)∧∃A c es,XP gx w x A c es
def PcPost(V U:World)(g gx a:Nat)(r:Told Ex)(e:Ending)(w':World):Prop:=match r with
 | .ok (y,ts)=>e= .returned (.tuple #[])∧InP V U w' g gx a y ts
 | .error E=>e=FLT E.1 E.2∧U.grownBy w' (some g)
theorem PcPost.yes{V U:World}{g gx a:Nat}{r:Told Ex}{y:Ex}{ts:List Tok}(h:r= .ok (y,ts)){e:Ending}{w':World}(he:e= .returned (.tuple #[]))(hi:InP V U w' g gx a y ts):PcPost V U g gx a r e w':=by subst h;exact⟨he,hi⟩
theorem PcPost.no{V U:World}{g gx a:Nat}{r:Told Ex}{E:Int×Int}(h:r= .error E){e:Ending}{w':World}(he:e=FLT E.1 E.2)(hi:U.grownBy w' (some g)):PcPost V U g gx a r e w':=by subst h;exact⟨he,hi⟩
theorem InP.step{V U w w':World}{g gx a a':Nat}{x:Ex}{ts ts':List Tok}(h:InP V U w g gx a x ts)(hg:w.grownBy w' (some g))(hs:StP V w' g ts' a'):InP V U w' g gx a' x ts':=by
 obtain⟨h1,h2,h3,h4,A,c,es,h5⟩:=h
 exact⟨hs,h2,h3,grown_trans h4 hg,A,c,es,h5.grown hg (by omega)⟩
theorem InP.set{V U w:World}{g gx a:Nat}{x y:Ex}{ts:List Tok}(h:InP V U w g gx a x ts)(o:Nat)(v:Value)(hy:∀A n c,(#[.int .i64 x.k,.int .i64 x.n,.string (B x.nm),.slice A n c]:Array Value).setIfInBounds o v= #[.int .i64 y.k,.int .i64 y.n,.string (B y.nm),.slice A n c])
  (hl:y.l=x.l) (hk:i64 y.k) (hn:i64 y.n) (hm:y.nm.length≤100):InP V U (w.setCell ⟨gx,o,none⟩ v) g gx a y ts:=by
 obtain⟨h1,h2,h3,h4,A,c,es,h5⟩:=h
 have gs:=set_grown w gx o v
 exact⟨h1.grown gs (fun e=>by injection e;omega) (fun k e=>by cases e;have:=h1.V.2;omega),h2,h3,grown_of h4 gs (fun k e=>by cases e;exact h3),A,c,es,h5.set o v y (hy _ _ _) hl hk hn hm⟩
theorem InP.box{V U w:World}{g gx a:Nat}{x:Ex}{ts:List Tok}(h:InP V U w g gx a x ts):∃A n c,Bk w gx 54 #[.int .i64 x.k,.int .i64 x.n,.string (B x.nm),.slice A n c]:=by
 obtain⟨h1,h2,h3,h4,A,c,es,h5⟩:=h
 exact⟨A,_,c,h5.1⟩
theorem pamount_any(V U:World)(g gx a:Nat)(x:Ex)(ts:List Tok)(f:Bool→List Tok→Told Ex)(w:World)(h:InP V U w g gx a x ts):
  Calls Tryz.prog 91 #[.pointer (some ⟨g,0,none⟩),.pointer (some ⟨gx,0,none⟩)] w (PcPost V U g gx a (stepP f .am x ts)):=by
 have hs:=h.1
 have hq:(∃N,numP 3 1000000000000 ts= .ok (N,ts.tail))∨numP 3 1000000000000 ts= .error (80,atT ts):=by
  unfold numP
  split
  ·exact .inl ⟨_,rfl⟩
  ·exact .inr rfl
 rcases hq with ⟨N,hN⟩|hN
 ·have HI:=yH h
  have HC:=yH (pnum_yes V g a ts 3 1000000000000 N w hs (by decide) hN)
  have HR:=yH (show stepP f .am x ts= .ok (x.num N,ts.tail) by unfold stepP;rw[hN])
  have HNi:Hid (i64 N):=yH (by
   unfold numP at hN
   split at hN
   ·injection hN with hN;injection hN with e _;rw[←e];exact hs.fine.head.2.2.1
   ·cases hN)
  clear h hs hN
  go_enter Tryz.func91,Tryz.ntmps91
  go_wp2_with (go_at_call 110;(with_reducible refine HC.out.mono ?_);rintro e w2 ⟨rfl,s2,g2⟩;have HI2:=yH (HI.out.step g2 s2);obtain⟨A,n,c,hb⟩:=HI2.out.box;obtain⟨⟨c0,c1,c2,c3⟩,f0,f1,f2,f3⟩:=hb.four;clear s2 g2 hb)
  go_end0
  refine PcPost.yes HR.out rfl (HI2.out.set 1 _ (fun _ _ _=>rfl) rfl ?_ HNi.out ?_)
  ·obtain⟨_,_,_,_,A,c,es,hx⟩:=HI.out;exact hx.2.2.2.2.1
  ·obtain⟨_,_,_,_,A,c,es,hx⟩:=HI.out;exact hx.2.2.2.2.2.2.1
 ·have HC:=yH (pnum_not V g a ts 3 1000000000000 w hs hN)
  have HR:=yH (show stepP f .am x ts= .error (80,atT ts) by unfold stepP;rw[hN])
  have HG:=yH h.2.2.2.1
  clear h hs hN
  go_enter Tryz.func91,Tryz.ntmps91
  go_wp2_with (go_at_call 110;(with_reducible refine HC.out.mono ?_);rintro e w2 ⟨rfl,g2⟩)
  exact⟨rfl,PcPost.no HR.out rfl (grown_trans HG.out g2)⟩
theorem ppart_any(V U:World)(g gx a:Nat)(x:Ex)(ts:List Tok)(f:Bool→List Tok→Told Ex)(w:World)(h:InP V U w g gx a x ts):
  Calls Tryz.prog 92 #[.pointer (some ⟨g,0,none⟩),.pointer (some ⟨gx,0,none⟩)] w (PcPost V U g gx a (stepP f .pa x ts)):=by
 have hs:=h.1
 have hq:(∃N,numP 2 100000 ts= .ok (N,ts.tail))∨numP 2 100000 ts= .error (80,atT ts):=by
  unfold numP
  split
  ·exact .inl ⟨_,rfl⟩
  ·exact .inr rfl
 rcases hq with ⟨N,hN⟩|hN
 ·have HI:=yH h
  have HC:=yH (pnum_yes V g a ts 2 100000 N w hs (by decide) hN)
  have HR:=yH (show stepP f .pa x ts= .ok (x.num N,ts.tail) by unfold stepP;rw[hN])
  have HNi:Hid (i64 N):=yH (by
   unfold numP at hN
   split at hN
   ·injection hN with hN;injection hN with e _;rw[←e];exact hs.fine.head.2.2.1
   ·cases hN)
  clear h hs hN
  go_enter Tryz.func92,Tryz.ntmps92
  go_wp2_with (go_at_call 110;(with_reducible refine HC.out.mono ?_);rintro e w2 ⟨rfl,s2,g2⟩;have HI2:=yH (HI.out.step g2 s2);obtain⟨A,n,c,hb⟩:=HI2.out.box;obtain⟨⟨c0,c1,c2,c3⟩,f0,f1,f2,f3⟩:=hb.four;clear s2 g2 hb)
  go_end0
  refine PcPost.yes HR.out rfl (HI2.out.set 1 _ (fun _ _ _=>rfl) rfl ?_ HNi.out ?_)
  ·obtain⟨_,_,_,_,A,c,es,hx⟩:=HI.out;exact hx.2.2.2.2.1
  ·obtain⟨_,_,_,_,A,c,es,hx⟩:=HI.out;exact hx.2.2.2.2.2.2.1
 ·have HC:=yH (pnum_not V g a ts 2 100000 w hs hN)
  have HR:=yH (show stepP f .pa x ts= .error (80,atT ts) by unfold stepP;rw[hN])
  have HG:=yH h.2.2.2.1
  clear h hs hN
  go_enter Tryz.func92,Tryz.ntmps92
  go_wp2_with (go_at_call 110;(with_reducible refine HC.out.mono ?_);rintro e w2 ⟨rfl,g2⟩)
  exact⟨rfl,PcPost.no HR.out rfl (grown_trans HG.out g2)⟩
theorem pcount_any(V U:World)(g gx a:Nat)(x:Ex)(ts:List Tok)(f:Bool→List Tok→Told Ex)(w:World)(h:InP V U w g gx a x ts):
  Calls Tryz.prog 124 #[.pointer (some ⟨g,0,none⟩),.pointer (some ⟨gx,0,none⟩)] w (PcPost V U g gx a (stepP f .co x ts)):=by
 have hs:=h.1
 have hq:(∃N,numP 2 1000 ts= .ok (N,ts.tail))∨numP 2 1000 ts= .error (80,atT ts):=by
  unfold numP
  split
  ·exact .inl ⟨_,rfl⟩
  ·exact .inr rfl
 rcases hq with ⟨N,hN⟩|hN
 ·have HI:=yH h
  have HC:=yH (pnum_yes V g a ts 2 1000 N w hs (by decide) hN)
  have HR:=yH (show stepP f .co x ts= .ok (x.num N,ts.tail) by unfold stepP;rw[hN])
  have HNi:Hid (i64 N):=yH (by
   unfold numP at hN
   split at hN
   ·injection hN with hN;injection hN with e _;rw[←e];exact hs.fine.head.2.2.1
   ·cases hN)
  clear h hs hN
  go_enter Tryz.func124,Tryz.ntmps124
  go_wp2_with (go_at_call 110;(with_reducible refine HC.out.mono ?_);rintro e w2 ⟨rfl,s2,g2⟩;have HI2:=yH (HI.out.step g2 s2);obtain⟨A,n,c,hb⟩:=HI2.out.box;obtain⟨⟨c0,c1,c2,c3⟩,f0,f1,f2,f3⟩:=hb.four;clear s2 g2 hb)
  go_end0
  refine PcPost.yes HR.out rfl (HI2.out.set 1 _ (fun _ _ _=>rfl) rfl ?_ HNi.out ?_)
  ·obtain⟨_,_,_,_,A,c,es,hx⟩:=HI.out;exact hx.2.2.2.2.1
  ·obtain⟨_,_,_,_,A,c,es,hx⟩:=HI.out;exact hx.2.2.2.2.2.2.1
 ·have HC:=yH (pnum_not V g a ts 2 1000 w hs hN)
  have HR:=yH (show stepP f .co x ts= .error (80,atT ts) by unfold stepP;rw[hN])
  have HG:=yH h.2.2.2.1
  clear h hs hN
  go_enter Tryz.func124,Tryz.ntmps124
  go_wp2_with (go_at_call 110;(with_reducible refine HC.out.mono ?_);rintro e w2 ⟨rfl,g2⟩)
  exact⟨rfl,PcPost.no HR.out rfl (grown_trans HG.out g2)⟩
theorem pname_any(V U:World)(g gx a:Nat)(x:Ex)(ts:List Tok)(f:Bool→List Tok→Told Ex)(w:World)(h:InP V U w g gx a x ts):
  Calls Tryz.prog 89 #[.pointer (some ⟨g,0,none⟩),.pointer (some ⟨gx,0,none⟩)] w (PcPost V U g gx a (stepP f .na x ts)):=by
 have hs:=h.1
 have HI:=yH h
 have HN:=yH (pnext_any V g a ts w hs)
 obtain⟨t,ht⟩:∃t,hdT ts=t:=⟨_,rfl⟩
 have hz:t.2.1.length≤100:=by rw[←ht];exact hs.fine.head.2.2.2.2
 have HA:=yH (show atT ts=t.2.2.2 by unfold atT;rw[ht])
 rw[ht] at HN
 have HV:=yH hs.V
 have HZ:=yH hz
 have hsz:(B t.2.1).size≤9223372036854775807:=by rw[B_size];omega
 cases hn:isName t.2.1
 ·have HR:=yH (show stepP f .na x ts= .error (80,atT ts) by unfold stepP nameP;rw[ht,hn];rfl)
  have HNm:=yH (show isName (B t.2.1).data.toList=false by rw[B_list];exact hn)
  clear h hs ht hn hz
  go_enter Tryz.func89,Tryz.ntmps89
  go_wp2_with (first
   |(go_at_call 95;(with_reducible refine HN.out.mono ?_);rintro e w2 ⟨rfl,s2,g2,_⟩;have G2:=yH g2;have R2:=yH (HV.out.1.grown g2 (fun k e=>by cases e;exact HV.out.2));have R3:=yH (R2.out.alloc (.cells #[.int .i64 t.1,.string (B t.2.1),.int .i64 t.2.2.1,.int .i64 t.2.2.2] 87));have HB:=yH (Bk.new w2 87 #[.int .i64 t.1,.string (B t.2.1),.int .i64 t.2.2.1,.int .i64 t.2.2.2]);clear s2 g2)
   |(go_at_call 104;(with_reducible refine(bool_at false (lname_any (B t.2.1) hsz _ _ R3.out.self) HNm).mono ?_);rintro e w4 ⟨rfl,h4⟩;have H4:=yH h4;obtain⟨⟨c0,c1,c2,c3⟩,_⟩:=(HB.out.rel h4).four;clear h4)
   |(go_at_call 94;(with_reducible refine(pwrong_any t _).mono ?_);rintro e w3 ⟨rfl,rfl⟩))
  refine⟨rfl,PcPost.no HR.out (by rw[HA.out]) (grown_trans HI.out.2.2.2.1 (grown_trans G2.out (grown_rel (some g) ?_)))⟩
  exact(((R2.out.self.alloc _).trans H4.out).alloc _).alloc _
 ·have HR:=yH (show stepP f .na x ts= .ok (x.name t.2.1,ts.tail) by unfold stepP nameP;rw[ht,hn];rfl)
  have HNm:=yH (show isName (B t.2.1).data.toList=true by rw[B_list];exact hn)
  have HT:=yH (hs.fine.last (.inr (by rw[ht];rintro e;rw[e] at hn;exact absurd hn (by decide))))
  clear h hs ht hn hz
  go_enter Tryz.func89,Tryz.ntmps89
  go_wp2_with (first
   |(go_at_call 95;(with_reducible refine HN.out.mono ?_);rintro e w2 ⟨rfl,s2,g2,_⟩;have G2:=yH g2;have R2:=yH (HV.out.1.grown g2 (fun k e=>by cases e;exact HV.out.2));have R3:=yH (R2.out.alloc (.cells #[.int .i64 t.1,.string (B t.2.1),.int .i64 t.2.2.1,.int .i64 t.2.2.2] 87));have HB:=yH (Bk.new w2 87 #[.int .i64 t.1,.string (B t.2.1),.int .i64 t.2.2.1,.int .i64 t.2.2.2]);have S2:=yH (s2 HT.out);clear s2 g2)
   |(go_at_call 104;(with_reducible refine(bool_at true (lname_any (B t.2.1) hsz _ _ R3.out.self) HNm).mono ?_);rintro e w4 ⟨rfl,h4⟩;have R4:=(R2.out.self.alloc (.cells #[.int .i64 t.1,.string (B t.2.1),.int .i64 t.2.2.1,.int .i64 t.2.2.2] 87)).trans h4;have HI4:=yH (HI.out.step (grown_trans G2.out (grown_rel (some g) R4)) (S2.out.rel R4));obtain⟨A,n,c,hb⟩:=HI4.out.box;obtain⟨⟨b0,b1,b2,b3⟩,f0,f1,f2,f3⟩:=hb.four;obtain⟨⟨c0,c1,c2,c3⟩,_⟩:=(HB.out.rel h4).four;clear h4 R4 hb))
  go_end0
  refine PcPost.yes HR.out rfl (HI4.out.set 2 _ (fun _ _ _=>rfl) rfl ?_ ?_ HZ.out)
  ·obtain⟨_,_,_,_,A,c,es,hx⟩:=HI.out;exact hx.2.2.2.2.1
  ·obtain⟨_,_,_,_,A,c,es,hx⟩:=HI.out;exact hx.2.2.2.2.2.1
end Go.Proofs.YtjhjdiaomnpkmaaGreatDoor
