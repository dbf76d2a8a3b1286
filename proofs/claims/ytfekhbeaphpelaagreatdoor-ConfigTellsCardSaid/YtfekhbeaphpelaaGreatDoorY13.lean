/- The document's own answers of layer 14. -/

import Derived.Test.YtfekhbeaphpelaaGreatDoorY12
set_option maxRecDepth 100000
set_option maxHeartbeats 8000000
set_option linter.unusedVariables false
set_option linter.unusedSimpArgs false
namespace Go.Proofs.YtfekhbeaphpelaaGreatDoor
open Go.RowKit Go.Lib
theorem rcheck_at{f c m o b:Int}{t:List UInt8}{S:ByteArray}{E:Int}(hS:B t=S)(hf:CfFit (f,c,m,o,b,t))(hE:checkC (f,c,m,o,b,t)=E)(w:World)(hr:Rel w w):
  Calls Tryz.prog 12 #[.agg #[yI f,yI c,yI m,yI o,yI b,.string S]] w fun e w'=>e= .returned (yI E)∧Hid (Rel w w'):=by
 rw[←hE]
 exact(rcheck_any (f,c,m,o,b,t) S hS hf w hr).mono fun e w' ⟨he,h2⟩=>⟨he,yH h2⟩
theorem rlow_any(f c m o b:Int)(S:ByteArray)(w:World)(hr:Rel w w):
  Calls Tryz.prog 14 #[.agg #[yI f,yI c,yI m,yI o,yI b,.string S]] w fun e w'=>e= .returned (yI (max f m))∧Rel w w':=by
 by_cases h:f<m
 all_goals
  have HR:=yH hr
  go_enter Tryz.func14,Tryz.ntmps14
  go_wp2_with (fail)
  all_goals
   go_ret
   exact⟨ret_int (by omega),HR.out.alloc _⟩
theorem rlow_at(f c m o b:Int)(S:ByteArray)(L:Int)(hL:max f m=L)(w:World)(hr:Rel w w):
  Calls Tryz.prog 14 #[.agg #[yI f,yI c,yI m,yI o,yI b,.string S]] w fun e w'=>e= .returned (yI L)∧Hid (Rel w w'):=by
 rw[←hL]
 exact(rlow_any f c m o b S w hr).mono fun e w' ⟨he,h2⟩=>⟨he,yH h2⟩
theorem rwithin_no(f c m o b p E:Int)(t:List UInt8)(S:ByteArray)(hS:B t=S)(hf:CfFit (f,c,m,o,b,t))(hE:checkC (f,c,m,o,b,t)=E)(h0:(E==0)=false)(w:World)(hr:Rel w w):
  Calls Tryz.prog 16 #[.agg #[yI f,yI c,yI m,yI o,yI b,.string S],yI p] w fun e w'=>e= .returned (.bool false)∧Rel w w':=by
 have HC:=yH (fun(w:World)(hr:Rel w w)=>rcheck_at hS hf hE w hr)
 obtain⟨gx,hgx,W,hW,HX,R1⟩:=conf_box hr f c m o b S
 clear hS hf hE hr
 go_enter Tryz.func16,Tryz.ntmps16
 go_upto_region 1 with (fail)
 try rw[hW]
 try rw[hgx]
 clear hW hgx
 obtain⟨⟨x0,x1,x2,x3,x4,x5⟩,_⟩:=six_of HX.out
 go_wp2_with (go_at_call 12;(with_reducible refine(HC.out _ R1.out.self).mono ?_);rintro e w2 ⟨rfl,r2⟩;have R2:=yH (R1.out.trans r2.out);have P2:=yH r2.out;obtain⟨⟨x0,x1,x2,x3,x4,x5⟩,_⟩:=six_of (HX.out.rel r2.out);clear r2)
 go_ret
 exact⟨rfl,R2.out⟩
theorem rwithin_a(f c m o b p L:Int)(t:List UInt8)(S:ByteArray)(hS:B t=S)(hf:CfFit (f,c,m,o,b,t))(hE:checkC (f,c,m,o,b,t)=0)(hL:max f m=L)(h1:decide (L≤p)=false)(w:World)(hr:Rel w w):
  Calls Tryz.prog 16 #[.agg #[yI f,yI c,yI m,yI o,yI b,.string S],yI p] w fun e w'=>e= .returned (.bool false)∧Rel w w':=by
 have HC:=yH (fun(w:World)(hr:Rel w w)=>rcheck_at hS hf hE w hr)
 have HL:=yH (fun(w:World)(hr:Rel w w)=>rlow_at f c m o b S L hL w hr)
 obtain⟨gx,hgx,W,hW,HX,R1⟩:=conf_box hr f c m o b S
 clear hS hf hE hr hL
 go_enter Tryz.func16,Tryz.ntmps16
 go_upto_region 1 with (fail)
 try rw[hW]
 try rw[hgx]
 clear hW hgx
 obtain⟨⟨x0,x1,x2,x3,x4,x5⟩,_⟩:=six_of HX.out
 go_wp2_with (first
  |(go_at_call 12;(with_reducible refine(HC.out _ R1.out.self).mono ?_);rintro e w2 ⟨rfl,r2⟩;have R2:=yH (R1.out.trans r2.out);have P2:=yH r2.out;obtain⟨⟨x0,x1,x2,x3,x4,x5⟩,_⟩:=six_of (HX.out.rel r2.out);clear r2)
  |(go_at_call 14;(with_reducible refine(HL.out _ R2.out.self).mono ?_);rintro e w3 ⟨rfl,r3⟩;have R3:=yH (R2.out.trans r3.out);obtain⟨⟨x0,x1,x2,x3,x4,x5⟩,_⟩:=six_of (HX.out.rel (P2.out.trans r3.out));clear r3))
 go_ret
 exact⟨rfl,R3.out⟩
theorem rwithin_b(f c m o b p L:Int)(t:List UInt8)(S:ByteArray)(hS:B t=S)(hf:CfFit (f,c,m,o,b,t))(hE:checkC (f,c,m,o,b,t)=0)(hL:max f m=L)(h1:decide (L≤p)=true)(h2:decide (p≤c)=true)(w:World)(hr:Rel w w):
  Calls Tryz.prog 16 #[.agg #[yI f,yI c,yI m,yI o,yI b,.string S],yI p] w fun e w'=>e= .returned (.bool true)∧Rel w w':=by
 have HC:=yH (fun(w:World)(hr:Rel w w)=>rcheck_at hS hf hE w hr)
 have HL:=yH (fun(w:World)(hr:Rel w w)=>rlow_at f c m o b S L hL w hr)
 obtain⟨gx,hgx,W,hW,HX,R1⟩:=conf_box hr f c m o b S
 clear hS hf hE hr hL
 go_enter Tryz.func16,Tryz.ntmps16
 go_upto_region 1 with (fail)
 try rw[hW]
 try rw[hgx]
 clear hW hgx
 obtain⟨⟨x0,x1,x2,x3,x4,x5⟩,_⟩:=six_of HX.out
 go_wp2_with (first
  |(go_at_call 12;(with_reducible refine(HC.out _ R1.out.self).mono ?_);rintro e w2 ⟨rfl,r2⟩;have R2:=yH (R1.out.trans r2.out);have P2:=yH r2.out;obtain⟨⟨x0,x1,x2,x3,x4,x5⟩,_⟩:=six_of (HX.out.rel r2.out);clear r2)
  |(go_at_call 14;(with_reducible refine(HL.out _ R2.out.self).mono ?_);rintro e w3 ⟨rfl,r3⟩;have R3:=yH (R2.out.trans r3.out);obtain⟨⟨x0,x1,x2,x3,x4,x5⟩,_⟩:=six_of (HX.out.rel (P2.out.trans r3.out));clear r3))
 go_ret
 exact⟨rfl,R3.out⟩
theorem rwithin_c(f c m o b p L:Int)(t:List UInt8)(S:ByteArray)(hS:B t=S)(hf:CfFit (f,c,m,o,b,t))(hE:checkC (f,c,m,o,b,t)=0)(hL:max f m=L)(h1:decide (L≤p)=true)(h2:decide (p≤c)=false)(w:World)(hr:Rel w w):
  Calls Tryz.prog 16 #[.agg #[yI f,yI c,yI m,yI o,yI b,.string S],yI p] w fun e w'=>e= .returned (.bool false)∧Rel w w':=by
 have HC:=yH (fun(w:World)(hr:Rel w w)=>rcheck_at hS hf hE w hr)
 have HL:=yH (fun(w:World)(hr:Rel w w)=>rlow_at f c m o b S L hL w hr)
 obtain⟨gx,hgx,W,hW,HX,R1⟩:=conf_box hr f c m o b S
 clear hS hf hE hr hL
 go_enter Tryz.func16,Tryz.ntmps16
 go_upto_region 1 with (fail)
 try rw[hW]
 try rw[hgx]
 clear hW hgx
 obtain⟨⟨x0,x1,x2,x3,x4,x5⟩,_⟩:=six_of HX.out
 go_wp2_with (first
  |(go_at_call 12;(with_reducible refine(HC.out _ R1.out.self).mono ?_);rintro e w2 ⟨rfl,r2⟩;have R2:=yH (R1.out.trans r2.out);have P2:=yH r2.out;obtain⟨⟨x0,x1,x2,x3,x4,x5⟩,_⟩:=six_of (HX.out.rel r2.out);clear r2)
  |(go_at_call 14;(with_reducible refine(HL.out _ R2.out.self).mono ?_);rintro e w3 ⟨rfl,r3⟩;have R3:=yH (R2.out.trans r3.out);obtain⟨⟨x0,x1,x2,x3,x4,x5⟩,_⟩:=six_of (HX.out.rel (P2.out.trans r3.out));clear r3))
 go_ret
 exact⟨rfl,R3.out⟩
theorem rwithin_any(c:Cf)(p:Int)(S:ByteArray)(hS:B (txC c)=S)(hf:CfFit c)(w:World)(hr:Rel w w):
  Calls Tryz.prog 16 #[.agg #[yI (flC c),yI (ceC c),yI (mpC c),yI (coC c),yI (bdC c),.string S],yI p] w fun e w'=>e= .returned (.bool (withinC c p))∧Rel w w':=by
 obtain⟨f,ce,m,o,b,t⟩:=c
 by_cases h0:checkC (f,ce,m,o,b,t)=0
 ·by_cases h1:max f m≤p
  ·by_cases h2:p≤ce
   ·have e:withinC (f,ce,m,o,b,t) p=true:=by
     unfold withinC lowC
     exact decide_eq_true ⟨h0,h1,h2⟩
    rw[e]
    exact rwithin_b f ce m o b p _ t S hS hf h0 rfl (decide_eq_true h1) (decide_eq_true h2) w hr
   ·have e:withinC (f,ce,m,o,b,t) p=false:=by
     unfold withinC lowC
     exact decide_eq_false fun h=>h2 h.2.2
    rw[e]
    exact rwithin_c f ce m o b p _ t S hS hf h0 rfl (decide_eq_true h1) (decide_eq_false h2) w hr
  ·have e:withinC (f,ce,m,o,b,t) p=false:=by
    unfold withinC lowC
    exact decide_eq_false fun h=>h1 h.2.1
   rw[e]
   exact rwithin_a f ce m o b p _ t S hS hf h0 rfl (decide_eq_false h1) w hr
 ·have e:withinC (f,ce,m,o,b,t) p=false:=by
   unfold withinC
   exact decide_eq_false fun h=>h0 h.1
  rw[e]
  exact rwithin_no f ce m o b p _ t S hS hf rfl (by simpa using h0) w hr
theorem rtarget_no(f c m o b E:Int)(t:List UInt8)(S:ByteArray)(hS:B t=S)(hf:CfFit (f,c,m,o,b,t))(hE:checkC (f,c,m,o,b,t)=E)(h0:(E !=0)=true)(A:Option Addr)(n q:Nat)(w:World)(hr:Rel w w):
  Calls Tryz.prog 19 #[.agg #[yI f,yI c,yI m,yI o,yI b,.string S],.slice A n q] w fun e w'=>e= .returned (.tuple #[yI 0,.bool false])∧Rel w w':=by
 have HC:=yH (fun(w:World)(hr:Rel w w)=>rcheck_at hS hf hE w hr)
 obtain⟨gx,hgx,W,hW,HX,R1⟩:=conf_box hr f c m o b S
 clear hS hf hE hr
 go_enter Tryz.func19,Tryz.ntmps19
 go_upto_region 1 with (fail)
 try rw[hW]
 try rw[hgx]
 clear hW hgx
 obtain⟨⟨x0,x1,x2,x3,x4,x5⟩,_⟩:=six_of HX.out
 go_wp2_with (go_at_call 12;(with_reducible refine(HC.out _ R1.out.self).mono ?_);rintro e w2 ⟨rfl,r2⟩;have R2:=yH (R1.out.trans r2.out);have P2:=yH r2.out;obtain⟨⟨x0,x1,x2,x3,x4,x5⟩,_⟩:=six_of (HX.out.rel r2.out);clear r2)
 go_ret2
 exact⟨rfl,R2.out⟩
theorem rtarget_none(f c m o b:Int)(t:List UInt8)(S:ByteArray)(hS:B t=S)(hf:CfFit (f,c,m,o,b,t))(hE:checkC (f,c,m,o,b,t)=0)(x:Ex)(hx:parseS t= .ok x)(os:List Of)(n e:Int)(d:Bool)(hd:e≠0∨d=false)(hv:RV (evalS os x)= .tuple #[yI n,.bool d,yI e])(A:Option Addr)(q N:Nat)(hN:os.length=N)(w:World)(hr:Rel w w)(ho:OffArg w A q os):
  Calls Tryz.prog 19 #[.agg #[yI f,yI c,yI m,yI o,yI b,.string S],.slice A N q] w fun e w'=>e= .returned (.tuple #[yI 0,.bool false])∧Rel w w':=by
 have HC:=yH (fun(w:World)(hr:Rel w w)=>rcheck_at hS hf hE w hr)
 have hz:=parse_size hx
 have ht:t.length≤9223372036854775807:=hf.2
 have HP:=yH (fun(w:World)(hr:Rel w w)=>rparse_yes14 t S hS ht x hx w hr)
 have HO:=yH ho
 have HEv:=yH (fun(v:Value)(w:World)(h:XAt w v x)(h2:OffArg w A q os)(hr:Rel w w)=>reval14 hv hz A q N hN w h h2 hr)
 have HN:=yH (check_zero.1 hE).1
 obtain⟨gx,hgx,W,hW,HX,R1⟩:=conf_box hr f c m o b S
 clear hS hf hE hr hx hz ht hv ho hN
 go_enter Tryz.func19,Tryz.ntmps19
 go_upto_region 1 with (fail)
 try rw[hW]
 try rw[hgx]
 clear hW hgx
 obtain⟨⟨x0,x1,x2,x3,x4,x5⟩,_⟩:=six_of HX.out
 go_upto_region 4 with (first
  |(go_at_call 12;(with_reducible refine(HC.out _ R1.out.self).mono ?_);rintro e w2 ⟨rfl,r2⟩;have R2:=yH (R1.out.trans r2.out);have P2:=yH r2.out;obtain⟨⟨x0,x1,x2,x3,x4,x5⟩,_⟩:=six_of (HX.out.rel r2.out);clear r2)
  |(go_at_call 24;(with_reducible refine(HP.out _ R2.out.self).mono ?_);rintro e w3 ⟨k,n',X,A',l,q',rfl,hv,r3⟩;have R3:=yH (R2.out.trans r3.out);have P3:=yH (P2.out.trans r3.out);have HV:=yH hv.out;clear r3 hv))
 have HY:=yH (Bk.new w3 52 #[yI k,yI n',.string X,.slice A' l q'])
 have R4:=yH (R3.out.alloc (.cells #[yI k,yI n',.string X,.slice A' l q'] 52))
 have P4:=yH (P3.out.alloc (.cells #[yI k,yI n',.string X,.slice A' l q'] 52))
 have HV4:=yH (HV.out.rel (R3.out.self.alloc (.cells #[yI k,yI n',.string X,.slice A' l q'] 52)))
 obtain⟨gy,hgy⟩:∃g,w3.heap.size=g:=⟨_,rfl⟩
 obtain⟨V,hV⟩:∃W,w3.alloc (.cells #[yI k,yI n',.string X,.slice A' l q'] 52)=W:=⟨_,rfl⟩
 rw[hV] at HY R4 P4 HV4
 rw[hgy] at HY
 try rw[hV]
 try rw[hgy]
 clear hV hgy x0 x1 x2 x3 x4 x5
 obtain⟨⟨y0,y1,y2,y3⟩,_⟩:=HY.out.four
 have C4:=yH (HEv.out (XV k n' X A' l q') V HV4.out (HO.out.rel R4.out) R4.out.self)
 by_cases he:e=0
 ·have hd2:d=false:=hd.resolve_left (by simpa using he)
  subst hd2
  subst he
  go_wp2_with (go_at_call 30;(with_reducible refine C4.out.mono ?_);rintro e w5 ⟨rfl,r5⟩;have R5:=yH (R4.out.trans r5.out);have P5:=yH (P4.out.trans r5.out);clear r5)
  go_ret2
  exact⟨rfl,R5.out⟩
 ·have hne:(e !=0)=true:=by simpa using he
  clear he hd
  go_wp2_with (go_at_call 30;(with_reducible refine C4.out.mono ?_);rintro e w5 ⟨rfl,r5⟩;have R5:=yH (R4.out.trans r5.out);have P5:=yH (P4.out.trans r5.out);clear r5)
  go_ret2
  exact⟨rfl,R5.out⟩
theorem rtarget_some(f c m o b:Int)(t:List UInt8)(S:ByteArray)(hS:B t=S)(hf:CfFit (f,c,m,o,b,t))(hE:checkC (f,c,m,o,b,t)=0)(x:Ex)(hx:parseS t= .ok x)(os:List Of)(n L r:Int)(hL:max f m=L)(hr2:clampC n L c=r)(hv:RV (evalS os x)= .tuple #[yI n,.bool true,yI 0])(A:Option Addr)(q N:Nat)(hN:os.length=N)(w:World)(hr:Rel w w)(ho:OffArg w A q os):
  Calls Tryz.prog 19 #[.agg #[yI f,yI c,yI m,yI o,yI b,.string S],.slice A N q] w fun e w'=>e= .returned (.tuple #[yI r,.bool true])∧Rel w w':=by
 have HC:=yH (fun(w:World)(hr:Rel w w)=>rcheck_at hS hf hE w hr)
 have hz:=parse_size hx
 have ht:t.length≤9223372036854775807:=hf.2
 have HP:=yH (fun(w:World)(hr:Rel w w)=>rparse_yes14 t S hS ht x hx w hr)
 have HO:=yH ho
 have HEv:=yH (fun(v:Value)(w:World)(h:XAt w v x)(h2:OffArg w A q os)(hr:Rel w w)=>reval14 hv hz A q N hN w h h2 hr)
 have HN:=yH (check_zero.1 hE).1
 obtain⟨gx,hgx,W,hW,HX,R1⟩:=conf_box hr f c m o b S
 clear hS hf hE hr hx hz ht hv ho hN
 go_enter Tryz.func19,Tryz.ntmps19
 go_upto_region 1 with (fail)
 try rw[hW]
 try rw[hgx]
 clear hW hgx
 obtain⟨⟨x0,x1,x2,x3,x4,x5⟩,_⟩:=six_of HX.out
 go_upto_region 4 with (first
  |(go_at_call 12;(with_reducible refine(HC.out _ R1.out.self).mono ?_);rintro e w2 ⟨rfl,r2⟩;have R2:=yH (R1.out.trans r2.out);have P2:=yH r2.out;obtain⟨⟨x0,x1,x2,x3,x4,x5⟩,_⟩:=six_of (HX.out.rel r2.out);clear r2)
  |(go_at_call 24;(with_reducible refine(HP.out _ R2.out.self).mono ?_);rintro e w3 ⟨k,n',X,A',l,q',rfl,hv,r3⟩;have R3:=yH (R2.out.trans r3.out);have P3:=yH (P2.out.trans r3.out);have HV:=yH hv.out;clear r3 hv))
 have HY:=yH (Bk.new w3 52 #[yI k,yI n',.string X,.slice A' l q'])
 have R4:=yH (R3.out.alloc (.cells #[yI k,yI n',.string X,.slice A' l q'] 52))
 have P4:=yH (P3.out.alloc (.cells #[yI k,yI n',.string X,.slice A' l q'] 52))
 have HV4:=yH (HV.out.rel (R3.out.self.alloc (.cells #[yI k,yI n',.string X,.slice A' l q'] 52)))
 obtain⟨gy,hgy⟩:∃g,w3.heap.size=g:=⟨_,rfl⟩
 obtain⟨V,hV⟩:∃W,w3.alloc (.cells #[yI k,yI n',.string X,.slice A' l q'] 52)=W:=⟨_,rfl⟩
 rw[hV] at HY R4 P4 HV4
 rw[hgy] at HY
 try rw[hV]
 try rw[hgy]
 clear hV hgy x0 x1 x2 x3 x4 x5
 obtain⟨⟨y0,y1,y2,y3⟩,_⟩:=HY.out.four
 have C4:=yH (HEv.out (XV k n' X A' l q') V HV4.out (HO.out.rel R4.out) R4.out.self)
 have HLw:=yH (fun(w:World)(hr:Rel w w)=>rlow_at f c m o b S L hL w hr)
 have hlc:L≤c:=by have h:=low_le HN.out;rw[←hL];exact h
 have HCl:=yH (fun(w:World)=>rclamp14_as n L c r hlc (yH hr2) w)
 clear hL hr2
 go_upto_region 7 with (go_at_call 30;(with_reducible refine C4.out.mono ?_);rintro e w5 ⟨rfl,r5⟩;have R5:=yH (R4.out.trans r5.out);have P5:=yH (P4.out.trans r5.out);clear r5)
 obtain⟨⟨x0,x1,x2,x3,x4,x5⟩,_⟩:=six_of (HX.out.rel P5.out)
 have Z5:=yH (R5.out.self.drew)
 go_region_held3 (fun w'=>w'.cell? ⟨gx,0,none⟩=some (yI f)∧w'.cell? ⟨gx,1,none⟩=some (yI c)∧w'.cell? ⟨gx,2,none⟩=some (yI m)∧w'.cell? ⟨gx,3,none⟩=some (yI o)∧w'.cell? ⟨gx,4,none⟩=some (yI b)∧w'.cell? ⟨gx,5,none⟩=some (.string S))
  (first|exact(six_of (HX.out.rel (P5.out.trans (R5.out.self.drew.trans rL.out)))).1|exact⟨x0,x1,x2,x3,x4,x5⟩|go_keep)
  (first
   |(go_at_call 14;(with_reducible refine(HLw.out _ R5.out.drew.self).mono ?_);rintro e wL ⟨rfl,rL⟩;have RL:=yH (R5.out.drew.trans rL.out))
   |(go_at_call 31;(with_reducible refine(HCl.out _).mono ?_);rintro e wC ⟨rfl,rfl⟩))
 all_goals
  go_wp2_with (fail)
  go_ret2
  exact⟨rfl,RL.out⟩
theorem rtarget_any(c:Cf)(S:ByteArray)(hS:B (txC c)=S)(hf:CfFit c)(os:List Of)(A:Option Addr)(q N:Nat)(hN:os.length=N)(w:World)(hr:Rel w w)(ho:OffArg w A q os):
  Calls Tryz.prog 19 #[.agg #[yI (flC c),yI (ceC c),yI (mpC c),yI (coC c),yI (bdC c),.string S],.slice A N q] w fun e w'=>e= .returned (.tuple #[yI (targN c os),.bool (targI c os)])∧Rel w w':=by
 obtain⟨f,ce,m,o,b,t⟩:=c
 by_cases h0:checkC (f,ce,m,o,b,t)=0
 ·obtain⟨hn,ht⟩:=check_zero.1 h0
  obtain⟨x,hx,hrx⟩:=textE_zero.1 ht
  have ht2:=target_of hn ht os
  rcases rv_cases os x with ⟨n,he,hv⟩|⟨n,e,d,hv,hd,hno⟩
  ·have h1:tellT t os=some n:=by unfold tellT;rw[hx];simp only[he]
   have h2:targetC (f,ce,m,o,b,t) os=some (clampC n (max f m) ce):=by rw[ht2];show Option.map _ (tellT t os)=_;rw[h1];rfl
   have h3:targN (f,ce,m,o,b,t) os=clampC n (max f m) ce:=by unfold targN;rw[h2];rfl
   have h4:targI (f,ce,m,o,b,t) os=true:=by unfold targI;rw[h2];rfl
   rw[h4]
   exact rtarget_some f ce m o b t S hS hf h0 x hx os n _ _ rfl h3.symm hv A q N hN w hr ho
  ·have h1:tellT t os=none:=by
    unfold tellT;rw[hx]
    cases he:evalS os x with
    |error e=>simp only[he]
    |ok y=>
     cases y with
     |none=>simp only[he]
     |some z=>exact absurd he (hno z)
   have h2:targetC (f,ce,m,o,b,t) os=none:=by rw[ht2];show Option.map _ (tellT t os)=_;rw[h1];rfl
   have h3:targN (f,ce,m,o,b,t) os=0:=by unfold targN;rw[h2];rfl
   have h4:targI (f,ce,m,o,b,t) os=false:=by unfold targI;rw[h2];rfl
   rw[h3,h4]
   exact rtarget_none f ce m o b t S hS hf h0 x hx os n e d hd hv A q N hN w hr ho
 ·have h2:targetC (f,ce,m,o,b,t) os=none:=by unfold targetC;rw[if_neg h0]
  have h3:targN (f,ce,m,o,b,t) os=0:=by unfold targN;rw[h2];rfl
  have h4:targI (f,ce,m,o,b,t) os=false:=by unfold targI;rw[h2];rfl
  rw[h3,h4]
  exact rtarget_no f ce m o b _ t S hS hf rfl (by simpa using h0) A N q w hr
theorem pick14_as(c n y:Int)(h:Hid (pk c n=y))(hc:i64 c)(hn:0<n)(hn':n≤9223372036854775807)(w:World):
  Calls Tryz.prog 20 #[yI c,yI n] w fun e w'=>e= .returned (yI y)∧w=w':=by
 rw[←h.out]
 obtain⟨h0,h1⟩:=hc
 by_cases h:c<0
 all_goals
  go_enter Tryz.func20,Tryz.ntmps20
  go_wp2
  all_goals
   go_ret
   exact⟨ret_int (by unfold pk;split<;>first|rfl|omega),rfl⟩
def CfW(w0 W:World)(g2 g4 g5:Nat)(raw:Array Value)(f c m o b:Int)(S:ByteArray):Prop:=
 Rel w0 W∧Bk W g2 22 raw∧Bk W g4 25 #[yI 0,yI 0,yI 0,yI 0,yI 0,.string ⟨#[]⟩]∧Bk W g5 25 #[yI f,yI c,yI m,yI o,yI b,.string S]
section
variable {w0 W:World} {g2 g4 g5:Nat} {raw:Array Value} {f c m o b:Int} {S:ByteArray}
theorem r6_ne:22≠25:=by decide
theorem CfW.ne2(h:CfW w0 W g2 g4 g5 raw f c m o b S):g2≠g5:=Bk.ne h.2.1 h.2.2.2 r6_ne
theorem CfW.rel(h:CfW w0 W g2 g4 g5 raw f c m o b S){W':World}(hr:Rel W W'):CfW w0 W' g2 g4 g5 raw f c m o b S:=⟨h.1.trans hr,h.2.1.rel hr,h.2.2.1.rel hr,h.2.2.2.rel hr⟩
theorem CfW.drew(h:CfW w0 W g2 g4 g5 raw f c m o b S):CfW w0 W.drew g2 g4 g5 raw f c m o b S:=⟨h.1.drew,h.2.1.drew,h.2.2.1.drew,h.2.2.2.drew⟩
theorem CfW.set1(h:CfW w0 W g2 g4 g5 raw f c m o b S)(hg:w0.heap.size≤g5)(h45:g4≠g5)(v:Int):CfW w0 (W.setCell ⟨g5,1,none⟩ (yI v)) g2 g4 g5 raw f v m o b S:=
 ⟨h.1.setCell (p:=⟨g5,1,none⟩) hg _,h.2.1.far (p:=⟨g5,1,none⟩) h.ne2 _,h.2.2.1.far (p:=⟨g5,1,none⟩) h45 _,h.2.2.2.set_ 1 (yI v)⟩
theorem CfW.set2(h:CfW w0 W g2 g4 g5 raw f c m o b S)(hg:w0.heap.size≤g5)(h45:g4≠g5)(v:Int):CfW w0 (W.setCell ⟨g5,2,none⟩ (yI v)) g2 g4 g5 raw f c v o b S:=
 ⟨h.1.setCell (p:=⟨g5,2,none⟩) hg _,h.2.1.far (p:=⟨g5,2,none⟩) h.ne2 _,h.2.2.1.far (p:=⟨g5,2,none⟩) h45 _,h.2.2.2.set_ 2 (yI v)⟩
theorem CfW.set3(h:CfW w0 W g2 g4 g5 raw f c m o b S)(hg:w0.heap.size≤g5)(h45:g4≠g5)(v:Int):CfW w0 (W.setCell ⟨g5,3,none⟩ (yI v)) g2 g4 g5 raw f c m v b S:=
 ⟨h.1.setCell (p:=⟨g5,3,none⟩) hg _,h.2.1.far (p:=⟨g5,3,none⟩) h.ne2 _,h.2.2.1.far (p:=⟨g5,3,none⟩) h45 _,h.2.2.2.set_ 3 (yI v)⟩
theorem CfW.set4(h:CfW w0 W g2 g4 g5 raw f c m o b S)(hg:w0.heap.size≤g5)(h45:g4≠g5)(v:Int):CfW w0 (W.setCell ⟨g5,4,none⟩ (yI v)) g2 g4 g5 raw f c m o v S:=
 ⟨h.1.setCell (p:=⟨g5,4,none⟩) hg _,h.2.1.far (p:=⟨g5,4,none⟩) h.ne2 _,h.2.2.1.far (p:=⟨g5,4,none⟩) h45 _,h.2.2.2.set_ 4 (yI v)⟩
theorem CfW.set5(h:CfW w0 W g2 g4 g5 raw f c m o b S)(hg:w0.heap.size≤g5)(h45:g4≠g5)(v:ByteArray):CfW w0 (W.setCell ⟨g5,5,none⟩ (.string v)) g2 g4 g5 raw f c m o b v:=
 ⟨h.1.setCell (p:=⟨g5,5,none⟩) hg _,h.2.1.far (p:=⟨g5,5,none⟩) h.ne2 _,h.2.2.1.far (p:=⟨g5,5,none⟩) h45 _,h.2.2.2.set_ 5 (.string v)⟩
end
theorem strat14(A:Option Addr)(c:Nat)(L:List Int)(x:Ex)(hx:strat L=x)(w:World)(hr:Rel w w)(hi:IntsIn w A c L):
  Calls Tryz.prog 22 #[.slice A L.length c] w fun e w'=>∃(k n:Int)(X:ByteArray)(A:Option Addr)(l c:Nat),e= .returned (XV k n X A l c)∧Hid (XAt w' (XV k n X A l c) x)∧Hid (Rel w w'):=by
 subst hx
 refine(strat_any A c L w w hr hi).mono ?_
 rintro e w' ⟨v,rfl,hv,hr2⟩
 exact⟨_,_,_,_,_,_,rfl,yH ⟨_,v,rfl,hv⟩,yH hr2⟩
theorem rprint14{v:Value}{x:Ex}{T:ByteArray}{E:Int}(hT:B (prT x)=T)(hE:prE x=E)(hz:size x≤1000000)(w:World)(h:XAt w v x)(hr:Rel w w):
  Calls Tryz.prog 21 #[v] w fun e w'=>e= .returned (.tuple #[.string T,yI E])∧Hid (Rel w w'):=by
 obtain⟨S,e,rfl,hx⟩:=h
 rw[←hT,←hE]
 exact(rprint_any x S e w w hr hx hz).mono fun e w' ⟨he,hr2⟩=>⟨he,yH hr2⟩
theorem four_fix{W:World}{g:Nat}(h:Bk W g 9 #[.string ⟨#[108,111,119,101,115,116]⟩,.string ⟨#[101,108,115,101,40,108,101,115,115,40,108,111,119,101,115,116,44,32,48,46,48,49,41,44,32,57,46,57,57,41]⟩,.string ⟨#[99,117,116,40,115,101,99,111,110,100,44,32,50,53,48,41]⟩,.string ⟨#[105,102,40,109,111,114,101,40,50,41,44,32,109,97,120,40,108,111,119,101,115,116,44,32,53,46,48,48,41,44,32,102,114,111,109,40,98,111,98,48,41,41]⟩])(j:Nat)(hj:j<4):W.cell? ⟨g,j,none⟩=some (.string (B (fixT (j:Int)))):=by
 have:j=0∨j=1∨j=2∨j=3:=by omega
 rcases this with rfl|rfl|rfl|rfl
 ·exact h.cell 0
 ·exact h.cell 1
 ·exact h.cell 2
 ·exact h.cell 3
theorem config14_any(r0 r1 r2 r3 r4 r5:Int)(L:List Int)(A:Option Addr)(c:Nat)(w:World)(hr:Rel w w)(hi:IntsIn w A c L)(h0:i64 r0)(h1:i64 r1)(h2:i64 r2)(h3:i64 r3)(h4:i64 r4)(h5:i64 r5):
  Calls Tryz.prog 10 #[.agg #[yI r0,yI r1,yI r2,yI r3,yI r4,yI r5],.slice A L.length c] w fun e w'=>e= .returned (.agg #[yI (flC (confR r0 r1 r2 r3 r4 r5 L)),yI (ceC (confR r0 r1 r2 r3 r4 r5 L)),yI (mpC (confR r0 r1 r2 r3 r4 r5 L)),yI (coC (confR r0 r1 r2 r3 r4 r5 L)),yI (bdC (confR r0 r1 r2 r3 r4 r5 L)),.string (B (txC (confR r0 r1 r2 r3 r4 r5 L)))])∧Rel w w':=by
 have hW0:=yH hr
 have p0:=pk_bd r0 1500 (by omega)
 have p1:=pk_bd r1 2000 (by omega)
 have p3:=pk_bd r3 12 (by omega)
 have p4:=pk_bd r4 60 (by omega)
 have p5:=pk_bd r5 4 (by omega)
 obtain⟨P0,hP0⟩:∃P,pk r0 1500=P:=⟨_,rfl⟩
 obtain⟨P1,hP1⟩:∃P,pk r1 2000=P:=⟨_,rfl⟩
 obtain⟨P3,hP3⟩:∃P,pk r3 12=P:=⟨_,rfl⟩
 obtain⟨P4,hP4⟩:∃P,pk r4 60=P:=⟨_,rfl⟩
 obtain⟨P5,hP5⟩:∃P,pk r5 4=P:=⟨_,rfl⟩
 rw[hP0] at p0
 rw[hP1] at p1
 rw[hP3] at p3
 rw[hP4] at p4
 rw[hP5] at p5
 obtain⟨j5,hj5⟩:∃j:Nat,P5=(j:Int):=⟨P5.toNat,by omega⟩
 subst hj5
 have hj4:j5<4:=by omega
 have HP0:=yH hP0
 have HP1:=yH hP1
 have HP3:=yH hP3
 have HP4:=yH hP4
 have HP5:=yH hP5
 obtain⟨F,hF⟩:∃F,1+P0=F:=⟨_,rfl⟩
 obtain⟨C,hC⟩:∃C,F+P1=C:=⟨_,rfl⟩
 have HF:=yH hF
 have HC:=yH hC
 have f0:1≤F:=by omega
 have f1:F≤1500:=by omega
 have c0:1≤C:=by omega
 have c1:C≤3500:=by omega
 have hcw:IntKind.i64.wrap C=C:=by rw[IntKind.wrap_i64];omega
 have p2:=pk_bd r2 (C+1) (by omega)
 obtain⟨P2,hP2⟩:∃P,pk r2 (C+1)=P:=⟨_,rfl⟩
 rw[hP2] at p2
 have HP2:=yH hP2
 have HI:=yH hi
 have I0:=yH h0
 have I1:=yH h1
 have I2:=yH h2
 have I3:=yH h3
 have I4:=yH h4
 have I5:=yH h5
 have HM:=yH (show rawM r2 C=if r2.tmod 3=0 then 0 else P2 from by unfold rawM;rw[hP2])
 have HB:=yH (show rawB r4=if r4.tmod 3=0 then 0 else P4 from by unfold rawB;rw[hP4])
 obtain⟨x,hx⟩:∃x,strat L=x:=⟨_,rfl⟩
 have HX:=yH hx
 have hsz:=strat_size L
 rw[hx] at hsz
 have HSt:=yH (fun(w:World)(hr:Rel w w)(hi:IntsIn w A c L)=>strat_any A c L w w hr hi)
 rw[hx] at HSt
 have HSz:=yH hsz
 obtain⟨p00,p01⟩:=p0
 obtain⟨p10,p11⟩:=p1
 obtain⟨p20,p21⟩:=p2
 obtain⟨p30,p31⟩:=p3
 obtain⟨p40,p41⟩:=p4
 clear hP0 hP1 hP2 hP3 hP4 hP5 h0 h1 h2 h3 h4 h5 hi hr hx hsz p5
 go_enter Tryz.func10,Tryz.ntmps10
 go_upto_region 2 with (go_at_call 20;(with_reducible refine(pick14_as r0 1500 P0 HP0 I0.out (by omega) (by omega) _).mono ?_);rintro e w9 ⟨rfl,rfl⟩)
 try rw[hF]
 clear hF
 have H1:=yH (show CfW w (((w.alloc (.cells #[yI r0,yI r1,yI r2,yI r3,yI r4,yI r5] 22)).alloc (.cells #[yI 0,yI 0,yI 0,yI 0,yI 0,.string ⟨#[]⟩] 25)).alloc (.cells #[yI F,yI 0,yI 0,yI 0,yI 0,.string ⟨#[]⟩] 25)) w.heap.size (w.heap.size+1) (w.heap.size+1+1) #[yI r0,yI r1,yI r2,yI r3,yI r4,yI r5] F 0 0 0 0 ⟨#[]⟩ from
  ⟨((hW0.out.alloc _).alloc _).alloc _,((Bk.new w 22 #[yI r0,yI r1,yI r2,yI r3,yI r4,yI r5]).alloc _).alloc _,by(have h:=(Bk.new (w.alloc (.cells #[yI r0,yI r1,yI r2,yI r3,yI r4,yI r5] 22)) 25 #[yI 0,yI 0,yI 0,yI 0,yI 0,.string ⟨#[]⟩]).alloc (.cells #[yI F,yI 0,yI 0,yI 0,yI 0,.string ⟨#[]⟩] 25);rw[World.size_alloc] at h;exact h),by(have h:=Bk.new ((w.alloc (.cells #[yI r0,yI r1,yI r2,yI r3,yI r4,yI r5] 22)).alloc (.cells #[yI 0,yI 0,yI 0,yI 0,yI 0,.string ⟨#[]⟩] 25)) 25 #[yI F,yI 0,yI 0,yI 0,yI 0,.string ⟨#[]⟩];rw[World.size_alloc,World.size_alloc] at h;exact h)⟩)
 obtain⟨W1,hW1⟩:∃W,((w.alloc (.cells #[yI r0,yI r1,yI r2,yI r3,yI r4,yI r5] 22)).alloc (.cells #[yI 0,yI 0,yI 0,yI 0,yI 0,.string ⟨#[]⟩] 25)).alloc (.cells #[yI F,yI 0,yI 0,yI 0,yI 0,.string ⟨#[]⟩] 25)=W:=⟨_,rfl⟩
 rw[hW1] at H1
 try rw[hW1]
 clear hW1
 obtain⟨g2,hg2⟩:∃g,w.heap.size=g:=⟨_,rfl⟩
 obtain⟨g4,hg4⟩:∃g,w.heap.size+1=g:=⟨_,rfl⟩
 obtain⟨g5,hg5⟩:∃g,w.heap.size+1+1=g:=⟨_,rfl⟩
 have b5:w.heap.size≤g5:=by omega
 have b4:w.heap.size≤g4:=by omega
 have h45:g4≠g5:=by omega
 rw[hg5,hg4,hg2] at H1
 try rw[hg5]
 try rw[hg4]
 try rw[hg2]
 rw[hg2] at b5 b4
 have HG2:=yH hg2
 clear hg2 hg4 hg5
 obtain⟨⟨r_0,r_1,r_2,r_3,r_4,r_5⟩,_⟩:=six_of H1.out.2.1
 obtain⟨⟨x0,x1,x2,x3,x4,x5⟩,⟨z0,z1,z2,z3,z4,z5⟩⟩:=six_of H1.out.2.2.2
 have H2:=yH (CfW.set1 H1.out (by rw[HG2.out];exact b5) h45 C).drew
 go_region_held3 (fun w'=>w'.cell? ⟨g2,1,none⟩=some (yI r1)∧w'.cell? ⟨g5,0,none⟩=some (yI F))
  (first|exact⟨r_1,x0⟩|exact⟨(six_of (CfW.set1 H1.out (by rw[HG2.out];exact b5) h45 C).2.1).1.2.1,(six_of (CfW.set1 H1.out (by rw[HG2.out];exact b5) h45 C).2.2.2).1.1⟩|go_keep)
  ((go_at_call 20;(with_reducible refine(pick14_as r1 2000 P1 HP1 I1.out (by omega) (by omega) _).mono ?_);rintro e w9 ⟨rfl,rfl⟩))
 try rw[hC]
 clear hC
 clear r_0 r_1 r_2 r_3 r_4 r_5 x0 x1 x2 x3 x4 x5 z0 z1 z2 z3 z4 z5
 obtain⟨W2,hW2⟩:∃W,(W1.setCell ⟨g5,1,none⟩ (yI C)).drew=W:=⟨_,rfl⟩
 rw[hW2] at H2
 try rw[hW2]
 clear hW2
 obtain⟨⟨r_0,r_1,r_2,r_3,r_4,r_5⟩,_⟩:=six_of H2.out.2.1
 obtain⟨⟨x0,x1,x2,x3,x4,x5⟩,⟨z0,z1,z2,z3,z4,z5⟩⟩:=six_of H2.out.2.2.2
 go_upto_region 4 with (go_at_call 20;(with_reducible refine(pick14_as r2 (C+1) P2 HP2 I2.out (by omega) (by omega) _).mono ?_);rintro e w9 ⟨rfl,rfl⟩)
 have H3:=yH (CfW.set2 H2.out (by rw[HG2.out];exact b5) h45 P2)
 clear r_0 r_1 r_2 r_3 r_4 r_5 x0 x1 x2 x3 x4 x5 z0 z1 z2 z3 z4 z5
 obtain⟨W3,hW3⟩:∃W,W2.setCell ⟨g5,2,none⟩ (yI P2)=W:=⟨_,rfl⟩
 rw[hW3] at H3
 try rw[hW3]
 clear hW3
 obtain⟨⟨r_0,r_1,r_2,r_3,r_4,r_5⟩,_⟩:=six_of H3.out.2.1
 obtain⟨⟨x0,x1,x2,x3,x4,x5⟩,⟨z0,z1,z2,z3,z4,z5⟩⟩:=six_of H3.out.2.2.2
 go_upto_if 30 with (fail)
 go_cut [] (fun wx=>Hid (CfW w wx g2 g4 g5 #[yI r0,yI r1,yI r2,yI r3,yI r4,yI r5] F C (rawM r2 C) 0 0 ⟨#[]⟩))
 case first=>
  by_cases hb:r2.tmod 3=0
  ·have hb2:(r2.tmod 3==0)=true:=by simpa using hb
   have e:=HM.out
   rw[if_pos hb] at e
   have H4:=yH (CfW.set2 H3.out (by rw[HG2.out];exact b5) h45 0)
   have HE:=yH e
   clear hb e
   go_wp2_with (fail)
   go_meet
   rw[HE.out]
   exact H4
  ·have hb2:(r2.tmod 3==0)=false:=by simpa using hb
   have e:=HM.out
   rw[if_neg hb] at e
   have HE:=yH e
   clear hb e
   go_wp2_with (fail)
   go_meet
   rw[HE.out]
   exact H3
 obtain⟨W4,hW4⟩:∃W,wc=W:=⟨_,rfl⟩
 subst hW4
 have H4:=hcut
 clear r_0 r_1 r_2 r_3 r_4 r_5 x0 x1 x2 x3 x4 x5 z0 z1 z2 z3 z4 z5
 clear hcut
 obtain⟨M,hM⟩:∃M,rawM r2 C=M:=⟨_,rfl⟩
 have HMM:=yH hM
 rw[hM] at H4
 clear hM
 obtain⟨⟨r_0,r_1,r_2,r_3,r_4,r_5⟩,_⟩:=six_of H4.out.2.1
 obtain⟨⟨x0,x1,x2,x3,x4,x5⟩,⟨z0,z1,z2,z3,z4,z5⟩⟩:=six_of H4.out.2.2.2
 go_upto_region 7 with (go_at_call 20;(with_reducible refine(pick14_as r3 12 P3 HP3 I3.out (by omega) (by omega) _).mono ?_);rintro e w9 ⟨rfl,rfl⟩)
 have H5:=yH (CfW.set3 H4.out (by rw[HG2.out];exact b5) h45 P3)
 clear r_0 r_1 r_2 r_3 r_4 r_5 x0 x1 x2 x3 x4 x5 z0 z1 z2 z3 z4 z5
 obtain⟨W5,hW5⟩:∃W,wc.setCell ⟨g5,3,none⟩ (yI P3)=W:=⟨_,rfl⟩
 rw[hW5] at H5
 try rw[hW5]
 clear hW5
 obtain⟨⟨r_0,r_1,r_2,r_3,r_4,r_5⟩,_⟩:=six_of H5.out.2.1
 obtain⟨⟨x0,x1,x2,x3,x4,x5⟩,⟨z0,z1,z2,z3,z4,z5⟩⟩:=six_of H5.out.2.2.2
 go_upto_region 8 with (go_at_call 20;(with_reducible refine(pick14_as r4 60 P4 HP4 I4.out (by omega) (by omega) _).mono ?_);rintro e w9 ⟨rfl,rfl⟩)
 have H6:=yH (CfW.set4 H5.out (by rw[HG2.out];exact b5) h45 P4)
 clear r_0 r_1 r_2 r_3 r_4 r_5 x0 x1 x2 x3 x4 x5 z0 z1 z2 z3 z4 z5
 obtain⟨W6,hW6⟩:∃W,W5.setCell ⟨g5,4,none⟩ (yI P4)=W:=⟨_,rfl⟩
 rw[hW6] at H6
 try rw[hW6]
 clear hW6
 obtain⟨⟨r_0,r_1,r_2,r_3,r_4,r_5⟩,_⟩:=six_of H6.out.2.1
 obtain⟨⟨x0,x1,x2,x3,x4,x5⟩,⟨z0,z1,z2,z3,z4,z5⟩⟩:=six_of H6.out.2.2.2
 go_upto_if 43 with (fail)
 go_cut [] (fun wx=>Hid (CfW w wx g2 g4 g5 #[yI r0,yI r1,yI r2,yI r3,yI r4,yI r5] F C M P3 (rawB r4) ⟨#[]⟩))
 case first=>
  by_cases hb:r4.tmod 3=0
  ·have hb2:(r4.tmod 3==0)=true:=by simpa using hb
   have e:=HB.out
   rw[if_pos hb] at e
   have H7:=yH (CfW.set4 H6.out (by rw[HG2.out];exact b5) h45 0)
   have HE:=yH e
   clear hb e
   go_wp2_with (fail)
   go_meet
   rw[HE.out]
   exact H7
  ·have hb2:(r4.tmod 3==0)=false:=by simpa using hb
   have e:=HB.out
   rw[if_neg hb] at e
   have HE:=yH e
   clear hb e
   go_wp2_with (fail)
   go_meet
   rw[HE.out]
   exact H6
 have H7:=hcut
 clear r_0 r_1 r_2 r_3 r_4 r_5 x0 x1 x2 x3 x4 x5 z0 z1 z2 z3 z4 z5
 clear hcut
 obtain⟨Bd,hBd⟩:∃M,rawB r4=M:=⟨_,rfl⟩
 have HBd:=yH hBd
 rw[hBd] at H7
 clear hBd
 have HS4:=yH (Bk.new wc 9 #[.string ⟨#[108,111,119,101,115,116]⟩,.string ⟨#[101,108,115,101,40,108,101,115,115,40,108,111,119,101,115,116,44,32,48,46,48,49,41,44,32,57,46,57,57,41]⟩,.string ⟨#[99,117,116,40,115,101,99,111,110,100,44,32,50,53,48,41]⟩,.string ⟨#[105,102,40,109,111,114,101,40,50,41,44,32,109,97,120,40,108,111,119,101,115,116,44,32,53,46,48,48,41,44,32,102,114,111,109,40,98,111,98,48,41,41]⟩])
 have HA8:=yH (H7.out.1.self.alloc (.cells #[.string ⟨#[108,111,119,101,115,116]⟩,.string ⟨#[101,108,115,101,40,108,101,115,115,40,108,111,119,101,115,116,44,32,48,46,48,49,41,44,32,57,46,57,57,41]⟩,.string ⟨#[99,117,116,40,115,101,99,111,110,100,44,32,50,53,48,41]⟩,.string ⟨#[105,102,40,109,111,114,101,40,50,41,44,32,109,97,120,40,108,111,119,101,115,116,44,32,53,46,48,48,41,44,32,102,114,111,109,40,98,111,98,48,41,41]⟩] 9))
 have H8:=yH (H7.out.rel HA8.out)
 obtain⟨gS,hgS⟩:∃g,wc.heap.size=g:=⟨_,rfl⟩
 obtain⟨Wa,hWa⟩:∃W,wc.alloc (.cells #[.string ⟨#[108,111,119,101,115,116]⟩,.string ⟨#[101,108,115,101,40,108,101,115,115,40,108,111,119,101,115,116,44,32,48,46,48,49,41,44,32,57,46,57,57,41]⟩,.string ⟨#[99,117,116,40,115,101,99,111,110,100,44,32,50,53,48,41]⟩,.string ⟨#[105,102,40,109,111,114,101,40,50,41,44,32,109,97,120,40,108,111,119,101,115,116,44,32,53,46,48,48,41,44,32,102,114,111,109,40,98,111,98,48,41,41]⟩] 9)=W:=⟨_,rfl⟩
 rw[hWa] at HS4 H8
 rw[hgS] at HS4
 have s5:=four_fix HS4.out j5 hj4
 obtain⟨X5,hX5⟩:∃X,B (fixT (j5:Int))=X:=⟨_,rfl⟩
 rw[hX5] at s5
 have HX5:=yH hX5
 have j40:(j5:Int)<4:=by omega
 clear HA8 hX5
 obtain⟨⟨r_0,r_1,r_2,r_3,r_4,r_5⟩,_⟩:=six_of H8.out.2.1
 obtain⟨⟨x0,x1,x2,x3,x4,x5⟩,⟨z0,z1,z2,z3,z4,z5⟩⟩:=six_of H8.out.2.2.2
 go_upto_region 11 with (go_at_call 20;(with_reducible refine(pick14_as r5 4 (j5:Int) HP5 I5.out (by omega) (by omega) _).mono ?_);rintro e w9 ⟨rfl,rfl⟩)
 have H9:=yH (CfW.set5 H8.out (by rw[HG2.out];exact b5) h45 X5)
 clear r_0 r_1 r_2 r_3 r_4 r_5 x0 x1 x2 x3 x4 x5 z0 z1 z2 z3 z4 z5
 clear hWa hgS s5
 obtain⟨W9,hW9⟩:∃W,Wa.setCell ⟨g5,5,none⟩ (.string X5)=W:=⟨_,rfl⟩
 rw[hW9] at H9
 try rw[hW9]
 clear hW9
 have U9:=yH H9.out.1.self
 have I9:=yH (HI.out.rel H9.out.1)
 obtain⟨PT,hPT⟩:∃T,B (prT x)=T:=⟨_,rfl⟩
 obtain⟨PE,hPE⟩:∃T,prE x=T:=⟨_,rfl⟩
 have HPT:=yH hPT
 have HPE:=yH hPE
 have HPr:=yH (fun(v:Value)(w:World)(h:XAt w v x)(hr:Rel w w)=>rprint14 hPT hPE (by have:=HSz.out;omega) w h hr)
 clear hPT hPE
 go_upto_region 12 with (first
  |(go_at_call 22;(with_reducible refine(strat14 A c L x HX.out W9 U9.out I9.out).mono ?_);rintro e w10 ⟨k,n,X,A',l,q,rfl,hv,r10⟩;have V10:=yH hv.out;have R10:=yH r10.out;have U10:=yH r10.out.self;clear hv r10)
  |(go_at_call 21;(with_reducible refine(HPr.out _ _ V10.out U10.out).mono ?_);rintro e w11 ⟨rfl,r11⟩;have R11:=yH (R10.out.trans r11.out);clear r11))
 have H11:=yH (H9.out.rel R11.out)
 clear U9 I9 HPr U10 V10 R10 HSt
 obtain⟨⟨r_0,r_1,r_2,r_3,r_4,r_5⟩,_⟩:=six_of H11.out.2.1
 obtain⟨⟨x0,x1,x2,x3,x4,x5⟩,⟨z0,z1,z2,z3,z4,z5⟩⟩:=six_of H11.out.2.2.2
 by_cases hb:r5.tmod 2=0
 ·have hb2:(r5.tmod 2==0)=true:=by simpa using hb
  have HBb:=yH hb
  clear hb
  cases hrx:rightX x with
  |true=>
   have hpe:PE=0:=by rw[←HPE.out];unfold prE;rw[hrx];rfl
   have hpt:B (text x)=PT:=by rw[←HPT.out];unfold prT;rw[hrx];rfl
   have HRx:=yH hrx
   have HPt:=yH hpt
   subst hpe
   clear hrx hpt
   go_upto_region 14 with (fail)
   have H12:=yH (CfW.set5 H11.out (by rw[HG2.out];exact b5) h45 PT)
   clear r_0 r_1 r_2 r_3 r_4 r_5 x0 x1 x2 x3 x4 x5 z0 z1 z2 z3 z4 z5
   obtain⟨W12,hW12⟩:∃W,w11.setCell ⟨g5,5,none⟩ (.string PT)=W:=⟨_,rfl⟩
   rw[hW12] at H12
   try rw[hW12]
   clear hW12
   obtain⟨⟨r_0,r_1,r_2,r_3,r_4,r_5⟩,_⟩:=six_of H12.out.2.1
   obtain⟨⟨x0,x1,x2,x3,x4,x5⟩,⟨z0,z1,z2,z3,z4,z5⟩⟩:=six_of H12.out.2.2.2
   obtain⟨⟨t0,t1,t2,t3,t4,t5⟩,⟨f_0,f_1,f_2,f_3,f_4,f_5⟩⟩:=six_of H12.out.2.2.1
   go_wp2_with (fail)
   have hb:Bk ((((((W12.setCell ⟨g4,0,none⟩ (yI F)).setCell ⟨g4,1,none⟩ (yI C)).setCell ⟨g4,2,none⟩ (yI M)).setCell ⟨g4,3,none⟩ (yI P3)).setCell ⟨g4,4,none⟩ (yI Bd)).setCell ⟨g4,5,none⟩ (.string PT)) g4 25 #[yI F,yI C,yI M,yI P3,yI Bd,.string PT]:=((((((H12.out.2.2.1.set_ 0 (yI F)).set_ 1 (yI C)).set_ 2 (yI M)).set_ 3 (yI P3)).set_ 4 (yI Bd)).set_ 5 (.string PT))
   have hR:Rel w ((((((W12.setCell ⟨g4,0,none⟩ (yI F)).setCell ⟨g4,1,none⟩ (yI C)).setCell ⟨g4,2,none⟩ (yI M)).setCell ⟨g4,3,none⟩ (yI P3)).setCell ⟨g4,4,none⟩ (yI Bd)).setCell ⟨g4,5,none⟩ (.string PT)):=((((((H12.out.1.setCell (p:=⟨g4,0,none⟩) (by rw[HG2.out];exact b4) _).setCell (p:=⟨g4,1,none⟩) (by rw[HG2.out];exact b4) _).setCell (p:=⟨g4,2,none⟩) (by rw[HG2.out];exact b4) _).setCell (p:=⟨g4,3,none⟩) (by rw[HG2.out];exact b4) _).setCell (p:=⟨g4,4,none⟩) (by rw[HG2.out];exact b4) _).setCell (p:=⟨g4,5,none⟩) (by rw[HG2.out];exact b4) _)
   obtain⟨V,hV⟩:∃V,((((((W12.setCell ⟨g4,0,none⟩ (yI F)).setCell ⟨g4,1,none⟩ (yI C)).setCell ⟨g4,2,none⟩ (yI M)).setCell ⟨g4,3,none⟩ (yI P3)).setCell ⟨g4,4,none⟩ (yI Bd)).setCell ⟨g4,5,none⟩ (.string PT))=V:=⟨_,rfl⟩
   rw[hV] at hb hR
   rw[hV]
   clear hV
   obtain⟨⟨y0,y1,y2,y3,y4,y5⟩,_⟩:=six_of hb
   refine bodyPost_ret (v:= .agg #[yI F,yI C,yI M,yI P3,yI Bd,.string PT]) (by simp[results,Tryz.results10,go_sem,y0,y1,y2,y3,y4,y5]) rfl ⟨?_,hR⟩
   have e1:flC (confR r0 r1 r2 r3 r4 r5 L)=F:=by show 1+pk r0 1500=F;rw[HP0.out,HF.out]
   have e2:ceC (confR r0 r1 r2 r3 r4 r5 L)=C:=by show 1+pk r0 1500+pk r1 2000=C;rw[HP0.out,HP1.out,HF.out,HC.out]
   have e3:mpC (confR r0 r1 r2 r3 r4 r5 L)=M:=by show rawM r2 (1+pk r0 1500+pk r1 2000)=M;rw[HP0.out,HP1.out,HF.out,HC.out,HMM.out]
   have e4:coC (confR r0 r1 r2 r3 r4 r5 L)=P3:=HP3.out
   have e5:bdC (confR r0 r1 r2 r3 r4 r5 L)=Bd:=HBd.out
   have e6:B (txC (confR r0 r1 r2 r3 r4 r5 L))=PT:=by
    show B (rawT r5 L)=PT
    unfold rawT
    rw[if_pos ⟨HBb.out,by rw[HX.out];exact HRx.out⟩,HX.out];exact HPt.out
   rw[e1,e2,e3,e4,e5,e6]
  |false=>
   have hpe:(PE==0)=false:=by rw[←HPE.out];unfold prE;rw[hrx];rfl
   have HRx:=yH hrx
   clear hrx
   obtain⟨⟨t0,t1,t2,t3,t4,t5⟩,⟨f_0,f_1,f_2,f_3,f_4,f_5⟩⟩:=six_of H11.out.2.2.1
   go_wp2_with (fail)
   have hb:Bk ((((((w11.setCell ⟨g4,0,none⟩ (yI F)).setCell ⟨g4,1,none⟩ (yI C)).setCell ⟨g4,2,none⟩ (yI M)).setCell ⟨g4,3,none⟩ (yI P3)).setCell ⟨g4,4,none⟩ (yI Bd)).setCell ⟨g4,5,none⟩ (.string X5)) g4 25 #[yI F,yI C,yI M,yI P3,yI Bd,.string X5]:=((((((H11.out.2.2.1.set_ 0 (yI F)).set_ 1 (yI C)).set_ 2 (yI M)).set_ 3 (yI P3)).set_ 4 (yI Bd)).set_ 5 (.string X5))
   have hR:Rel w ((((((w11.setCell ⟨g4,0,none⟩ (yI F)).setCell ⟨g4,1,none⟩ (yI C)).setCell ⟨g4,2,none⟩ (yI M)).setCell ⟨g4,3,none⟩ (yI P3)).setCell ⟨g4,4,none⟩ (yI Bd)).setCell ⟨g4,5,none⟩ (.string X5)):=((((((H11.out.1.setCell (p:=⟨g4,0,none⟩) (by rw[HG2.out];exact b4) _).setCell (p:=⟨g4,1,none⟩) (by rw[HG2.out];exact b4) _).setCell (p:=⟨g4,2,none⟩) (by rw[HG2.out];exact b4) _).setCell (p:=⟨g4,3,none⟩) (by rw[HG2.out];exact b4) _).setCell (p:=⟨g4,4,none⟩) (by rw[HG2.out];exact b4) _).setCell (p:=⟨g4,5,none⟩) (by rw[HG2.out];exact b4) _)
   obtain⟨V,hV⟩:∃V,((((((w11.setCell ⟨g4,0,none⟩ (yI F)).setCell ⟨g4,1,none⟩ (yI C)).setCell ⟨g4,2,none⟩ (yI M)).setCell ⟨g4,3,none⟩ (yI P3)).setCell ⟨g4,4,none⟩ (yI Bd)).setCell ⟨g4,5,none⟩ (.string X5))=V:=⟨_,rfl⟩
   rw[hV] at hb hR
   rw[hV]
   clear hV
   obtain⟨⟨y0,y1,y2,y3,y4,y5⟩,_⟩:=six_of hb
   refine bodyPost_ret (v:= .agg #[yI F,yI C,yI M,yI P3,yI Bd,.string X5]) (by simp[results,Tryz.results10,go_sem,y0,y1,y2,y3,y4,y5]) rfl ⟨?_,hR⟩
   have e1:flC (confR r0 r1 r2 r3 r4 r5 L)=F:=by show 1+pk r0 1500=F;rw[HP0.out,HF.out]
   have e2:ceC (confR r0 r1 r2 r3 r4 r5 L)=C:=by show 1+pk r0 1500+pk r1 2000=C;rw[HP0.out,HP1.out,HF.out,HC.out]
   have e3:mpC (confR r0 r1 r2 r3 r4 r5 L)=M:=by show rawM r2 (1+pk r0 1500+pk r1 2000)=M;rw[HP0.out,HP1.out,HF.out,HC.out,HMM.out]
   have e4:coC (confR r0 r1 r2 r3 r4 r5 L)=P3:=HP3.out
   have e5:bdC (confR r0 r1 r2 r3 r4 r5 L)=Bd:=HBd.out
   have e6:B (txC (confR r0 r1 r2 r3 r4 r5 L))=X5:=by
    show B (rawT r5 L)=X5
    unfold rawT
    rw[if_neg (fun h=>by have h2:=h.2;rw[HX.out,HRx.out] at h2;cases h2),HP5.out];exact HX5.out
   rw[e1,e2,e3,e4,e5,e6]
 ·have hb2:(r5.tmod 2==0)=false:=by simpa using hb
  have HBb:=yH hb
  clear hb
  obtain⟨⟨t0,t1,t2,t3,t4,t5⟩,⟨f_0,f_1,f_2,f_3,f_4,f_5⟩⟩:=six_of H11.out.2.2.1
  go_wp2_with (fail)
  have hb:Bk ((((((w11.setCell ⟨g4,0,none⟩ (yI F)).setCell ⟨g4,1,none⟩ (yI C)).setCell ⟨g4,2,none⟩ (yI M)).setCell ⟨g4,3,none⟩ (yI P3)).setCell ⟨g4,4,none⟩ (yI Bd)).setCell ⟨g4,5,none⟩ (.string X5)) g4 25 #[yI F,yI C,yI M,yI P3,yI Bd,.string X5]:=((((((H11.out.2.2.1.set_ 0 (yI F)).set_ 1 (yI C)).set_ 2 (yI M)).set_ 3 (yI P3)).set_ 4 (yI Bd)).set_ 5 (.string X5))
  have hR:Rel w ((((((w11.setCell ⟨g4,0,none⟩ (yI F)).setCell ⟨g4,1,none⟩ (yI C)).setCell ⟨g4,2,none⟩ (yI M)).setCell ⟨g4,3,none⟩ (yI P3)).setCell ⟨g4,4,none⟩ (yI Bd)).setCell ⟨g4,5,none⟩ (.string X5)):=((((((H11.out.1.setCell (p:=⟨g4,0,none⟩) (by rw[HG2.out];exact b4) _).setCell (p:=⟨g4,1,none⟩) (by rw[HG2.out];exact b4) _).setCell (p:=⟨g4,2,none⟩) (by rw[HG2.out];exact b4) _).setCell (p:=⟨g4,3,none⟩) (by rw[HG2.out];exact b4) _).setCell (p:=⟨g4,4,none⟩) (by rw[HG2.out];exact b4) _).setCell (p:=⟨g4,5,none⟩) (by rw[HG2.out];exact b4) _)
  obtain⟨V,hV⟩:∃V,((((((w11.setCell ⟨g4,0,none⟩ (yI F)).setCell ⟨g4,1,none⟩ (yI C)).setCell ⟨g4,2,none⟩ (yI M)).setCell ⟨g4,3,none⟩ (yI P3)).setCell ⟨g4,4,none⟩ (yI Bd)).setCell ⟨g4,5,none⟩ (.string X5))=V:=⟨_,rfl⟩
  rw[hV] at hb hR
  rw[hV]
  clear hV
  obtain⟨⟨y0,y1,y2,y3,y4,y5⟩,_⟩:=six_of hb
  refine bodyPost_ret (v:= .agg #[yI F,yI C,yI M,yI P3,yI Bd,.string X5]) (by simp[results,Tryz.results10,go_sem,y0,y1,y2,y3,y4,y5]) rfl ⟨?_,hR⟩
  have e1:flC (confR r0 r1 r2 r3 r4 r5 L)=F:=by show 1+pk r0 1500=F;rw[HP0.out,HF.out]
  have e2:ceC (confR r0 r1 r2 r3 r4 r5 L)=C:=by show 1+pk r0 1500+pk r1 2000=C;rw[HP0.out,HP1.out,HF.out,HC.out]
  have e3:mpC (confR r0 r1 r2 r3 r4 r5 L)=M:=by show rawM r2 (1+pk r0 1500+pk r1 2000)=M;rw[HP0.out,HP1.out,HF.out,HC.out,HMM.out]
  have e4:coC (confR r0 r1 r2 r3 r4 r5 L)=P3:=HP3.out
  have e5:bdC (confR r0 r1 r2 r3 r4 r5 L)=Bd:=HBd.out
  have e6:B (txC (confR r0 r1 r2 r3 r4 r5 L))=X5:=by
   show B (rawT r5 L)=X5
   unfold rawT
   rw[if_neg (fun h=>HBb.out h.1),HP5.out];exact HX5.out
  rw[e1,e2,e3,e4,e5,e6]
def CCheckOk:Prop:=∀(c:Cf)(S:ByteArray),B (txC c)=S→CfFit c→∀w:World,Rel w w→Calls Tryz.prog 11 #[.agg #[yI (flC c),yI (ceC c),yI (mpC c),yI (coC c),yI (bdC c),.string S]] w fun e w'=>e= .returned (yI (checkC c))∧Rel w w'
def CLowOk:Prop:=∀(c:Cf)(S:ByteArray),B (txC c)=S→CfFit c→∀w:World,Rel w w→Calls Tryz.prog 13 #[.agg #[yI (flC c),yI (ceC c),yI (mpC c),yI (coC c),yI (bdC c),.string S]] w fun e w'=>e= .returned (yI (lowC c))∧Rel w w'
def CWithinOk:Prop:=∀(c:Cf)(p:Int)(S:ByteArray),B (txC c)=S→CfFit c→i64 p→∀w:World,Rel w w→Calls Tryz.prog 15 #[.agg #[yI (flC c),yI (ceC c),yI (mpC c),yI (coC c),yI (bdC c),.string S],yI p] w fun e w'=>e= .returned (.bool (withinC c p))∧Rel w w'
def CTargetOk:Prop:=∀(c:Cf)(S:ByteArray),B (txC c)=S→CfFit c→∀(os:List Of)(A:Option Addr)(q N:Nat),os.length=N→∀w:World,Rel w w→OffArg w A q os→Calls Tryz.prog 18 #[.agg #[yI (flC c),yI (ceC c),yI (mpC c),yI (coC c),yI (bdC c),.string S],.slice A N q] w fun e w'=>e= .returned (.tuple #[yI (targN c os),.bool (targI c os)])∧Rel w w'
def ConfOk:Prop:=CCheckOk∧CLowOk∧CWithinOk∧CTargetOk
section
variable {f c m o b:Int} {t:List UInt8} {S:ByteArray}
theorem cchk_at(H:ConfOk)(hS:B t=S)(hf:CfFit (f,c,m,o,b,t)){E:Int}(hE:checkC (f,c,m,o,b,t)=E)(w:World)(hr:Rel w w):
  Calls Tryz.prog 11 #[.agg #[yI f,yI c,yI m,yI o,yI b,.string S]] w fun e w'=>e= .returned (yI E)∧Hid (Rel w w'):=by
 rw[←hE]
 exact(H.1 (f,c,m,o,b,t) S hS hf w hr).mono fun e w' ⟨he,h2⟩=>⟨he,yH h2⟩
theorem clow_at(H:ConfOk)(hS:B t=S)(hf:CfFit (f,c,m,o,b,t)){E:Int}(hE:max f m=E)(w:World)(hr:Rel w w):
  Calls Tryz.prog 13 #[.agg #[yI f,yI c,yI m,yI o,yI b,.string S]] w fun e w'=>e= .returned (yI E)∧Hid (Rel w w'):=by
 rw[←hE]
 exact(H.2.1 (f,c,m,o,b,t) S hS hf w hr).mono fun e w' ⟨he,h2⟩=>⟨he,yH h2⟩
theorem cwit_at(H:ConfOk)(hS:B t=S)(hf:CfFit (f,c,m,o,b,t)){p:Int}(hp:i64 p){E:Bool}(hE:withinC (f,c,m,o,b,t) p=E)(w:World)(hr:Rel w w):
  Calls Tryz.prog 15 #[.agg #[yI f,yI c,yI m,yI o,yI b,.string S],yI p] w fun e w'=>e= .returned (.bool E)∧Hid (Rel w w'):=by
 rw[←hE]
 exact(H.2.2.1 (f,c,m,o,b,t) p S hS hf hp w hr).mono fun e w' ⟨he,h2⟩=>⟨he,yH h2⟩
theorem ctar_at(H:ConfOk)(hS:B t=S)(hf:CfFit (f,c,m,o,b,t)){os:List Of}{A:Option Addr}{q:Nat}(N:Nat)(hN:os.length=N){E:Int}{I:Bool}(hE:targN (f,c,m,o,b,t) os=E)(hI:targI (f,c,m,o,b,t) os=I)(w:World)(hr:Rel w w)(ho:OffArg w A q os):
  Calls Tryz.prog 18 #[.agg #[yI f,yI c,yI m,yI o,yI b,.string S],.slice A N q] w fun e w'=>e= .returned (.tuple #[yI E,.bool I])∧Hid (Rel w w'):=by
 rw[←hE,←hI]
 exact(H.2.2.2 (f,c,m,o,b,t) S hS hf os A q N hN w hr ho).mono fun e w' ⟨he,h2⟩=>⟨he,yH h2⟩
end
abbrev sE14:ByteArray:=⟨#[108,101,115,115,40,108,111,119,101,115,116,44,32,48,46,48,49,41]⟩
def tE14:List UInt8:=[108,101,115,115,40,108,111,119,101,115,116,44,32,48,46,48,49,41]
def tL14:List UInt8:=[108,101,115,115]
def xE14:Ex:= .mk 5 1 [] [.mk 1 0 [] []]
def oA14:List Of:=[([97],300)]
theorem xE_text:text xE14=tE14:=by
 unfold xE14
 simp only[text_mk,texts_cons,texts_nil,mores_cons,mores_nil,tailK,txt_1]
 decide
theorem xE_right:rightX xE14=true:=by
 unfold rightX
 rw[xE_text,show size xE14=2 by unfold xE14;simp only[size_mk,sizes_cons,sizes_nil]]
 decide
theorem tE_parse:parseS tE14= .ok xE14:=by rw[←xE_text];exact parse_text xE_right
theorem tL_parse:parseS tL14= .error (80,4):=by
 have h:lx 0 tL14= .ok [(1,[108,101,115,115],0,0),(5,[],0,4)]:=by
  rw[lxF_eq 20 0 tL14 (by decide)];rfl
 unfold parseS
 rw[if_neg (by decide),h]
 rfl
theorem oA_ok:offsOk oA14=true:=by decide
theorem ev_A:evalS oA14 xE14= .ok (some 299):=by
 rw[eval_yes oA_ok xE_right]
 unfold xE14
 rw[told_less5,told_one _ _ _ rfl,show rk oA14 0=some 300 from by decide]
 simp only
 rw[sub_price (by omega) (by omega) (by omega) (by omega)]
 rfl
theorem ev_0:evalS [] xE14= .ok none:=by
 rw[eval_yes offsOk_nil xE_right]
 unfold xE14
 rw[told_less5,told_one _ _ _ rfl]
 rfl
theorem ckA:checkC (500,900,0,0,0,tE14)=0:=check_zero.2 ⟨by decide,textE_zero.2 ⟨xE14,tE_parse,xE_right⟩⟩
theorem ckD:checkC (500,900,901,0,0,tE14)=10:=by unfold checkC;rw[if_neg (by decide)]
theorem ckF:checkC (500,900,0,0,0,tL14)=80:=by unfold checkC;rw[if_pos (by decide)];exact textE_error tL_parse
theorem wiA:withinC (500,900,0,0,0,tE14) 900=true:=by unfold withinC;exact decide_eq_true ⟨ckA,by decide,by decide⟩
theorem wiB:withinC (500,900,0,0,0,tE14) 901=false:=by unfold withinC;exact decide_eq_false fun h=>by have:=h.2.2;exact absurd this (by decide)
theorem wiD:withinC (500,900,901,0,0,tE14) 900=false:=by unfold withinC;exact decide_eq_false fun h=>by have:=h.1;rw[ckD] at this;omega
theorem taA:targetC (500,900,0,0,0,tE14) oA14=some 500:=by
 unfold targetC tellT
 rw[if_pos ckA,show txC (500,900,0,0,0,tE14)=tE14 from rfl,tE_parse]
 simp only[ev_A]
 rfl
theorem ta0:targetC (500,900,0,0,0,tE14) []=none:=by
 unfold targetC tellT
 rw[if_pos ckA,show txC (500,900,0,0,0,tE14)=tE14 from rfl,tE_parse]
 simp only[ev_0]
 rfl
theorem fit14{m:Int}{t:List UInt8}(hm:i64 m)(ht:t.length≤9223372036854775807):CfFit (500,900,m,0,0,t):=⟨⟨(show i64 500 from⟨by decide,by decide⟩),(show i64 900 from⟨by decide,by decide⟩),hm,(show i64 0 from⟨by decide,by decide⟩),(show i64 0 from⟨by decide,by decide⟩)⟩,ht⟩
theorem oA_arg{w:World}{g:Nat}(h:Bk w g 46 #[.string ⟨#[97]⟩,yI 300]):OffArg w (some ⟨g,0,none⟩) 1 oA14:=
 ⟨by decide,by decide,offs_fit oA_ok,OffsAt.of_bk (os:=oA14) h⟩
theorem awake14_any(H:ConfOk)(w:World)(hr:Rel w w):
  Calls Tryz.prog 9 #[] w fun e w'=>e= .returned (.bool true)∧Rel w w':=by
 have HR:=yH hr
 have fA:=fit14 (m:=0) (t:=tE14) ⟨by decide,by decide⟩ (by decide)
 have fD:=fit14 (m:=901) (t:=tE14) ⟨by decide,by decide⟩ (by decide)
 have fF:=fit14 (m:=0) (t:=tL14) ⟨by decide,by decide⟩ (by decide)
 have KA:=yH (fun(w:World)(hr:Rel w w)=>cchk_at H (S:=sE14) rfl fA ckA w hr)
 have KD:=yH (fun(w:World)(hr:Rel w w)=>cchk_at H (S:=sE14) rfl fD ckD w hr)
 have KF:=yH (fun(w:World)(hr:Rel w w)=>cchk_at H (S:=⟨#[108,101,115,115]⟩) rfl fF ckF w hr)
 have KL:=yH (fun(w:World)(hr:Rel w w)=>clow_at H (S:=sE14) rfl fA (show max (500:Int) 0=500 by decide) w hr)
 have KW:=yH (fun(w:World)(hr:Rel w w)=>cwit_at H (S:=sE14) rfl fA ⟨by decide,by decide⟩ wiA w hr)
 have KX:=yH (fun(w:World)(hr:Rel w w)=>cwit_at H (S:=sE14) rfl fA ⟨by decide,by decide⟩ wiB w hr)
 have KY:=yH (fun(w:World)(hr:Rel w w)=>cwit_at H (S:=sE14) rfl fD ⟨by decide,by decide⟩ wiD w hr)
 have KT:=yH (fun(w:World)(g:Nat)(hr:Rel w w)(ho:OffArg w (some ⟨g,0,none⟩) 1 oA14)=>ctar_at H (S:=sE14) rfl fA 1 rfl (show targN (500,900,0,0,0,tE14) oA14=500 by unfold targN;rw[taA];rfl) (show targI (500,900,0,0,0,tE14) oA14=true by unfold targI;rw[taA];rfl) w hr ho)
 have KU:=yH (fun(w:World)(hr:Rel w w)=>ctar_at H (S:=sE14) rfl fA 0 rfl (show targN (500,900,0,0,0,tE14) []=0 by unfold targN;rw[ta0];rfl) (show targI (500,900,0,0,0,tE14) []=false by unfold targI;rw[ta0];rfl) w hr (offArg_nil w))
 clear H hr fA fD fF
 go_enter Tryz.func9,Tryz.ntmps9
 go_upto_region 3 with (fail)
 have HB:=yH ((Bk.new w 25 #[yI 500,yI 900,yI 0,yI 0,yI 0,.string sE14]).alloc (.cells #[.string ⟨#[97]⟩,yI 300] 46))
 have HO:=yH (Bk.new (w.alloc (.cells #[yI 500,yI 900,yI 0,yI 0,yI 0,.string sE14] 25)) 46 #[.string ⟨#[97]⟩,yI 300])
 have R1:=yH ((HR.out.alloc (.cells #[yI 500,yI 900,yI 0,yI 0,yI 0,.string sE14] 25)).alloc (.cells #[.string ⟨#[97]⟩,yI 300] 46))
 rw[World.size_alloc] at HO
 obtain⟨W1,hW1⟩:∃W,(w.alloc (.cells #[yI 500,yI 900,yI 0,yI 0,yI 0,.string sE14] 25)).alloc (.cells #[.string ⟨#[97]⟩,yI 300] 46)=W:=⟨_,rfl⟩
 rw[hW1] at HB HO R1
 try rw[hW1]
 obtain⟨gO,hgO⟩:∃g,w.heap.size+1=g:=⟨_,rfl⟩
 rw[hgO] at HO
 try rw[hgO]
 obtain⟨gA,hgA⟩:∃g,w.heap.size=g:=⟨_,rfl⟩
 rw[hgA] at HB
 try rw[hgA]
 have sA:w.heap.size≤gA:=by omega
 clear hW1 hgO hgA
 obtain⟨⟨a0,a1,a2,a3,a4,a5⟩,⟨af0,af1,af2,af3,af4,af5⟩⟩:=six_of HB.out
 have C3:=yH (KT.out W1 gO R1.out.self (oA_arg HO.out))
 go_upto_region 4 with (go_at_call 18;(with_reducible refine C3.out.mono ?_);rintro e w2 ⟨rfl,r2⟩;have R2:=yH (R1.out.trans r2.out);have HB2:=yH (HB.out.rel r2.out);clear r2)
 clear a0 a1 a2 a3 a4 a5 af0 af1 af2 af3 af4 af5
 obtain⟨⟨a0,a1,a2,a3,a4,a5⟩,⟨af0,af1,af2,af3,af4,af5⟩⟩:=six_of HB2.out
 have C4:=yH (KU.out w2 R2.out.self)
 go_upto_region 5 with (go_at_call 18;(with_reducible refine C4.out.mono ?_);rintro e w3 ⟨rfl,r3⟩;have R3:=yH (R2.out.trans r3.out);have HB3:=yH (HB2.out.rel r3.out);clear r3)
 clear a0 a1 a2 a3 a4 a5 af0 af1 af2 af3 af4 af5
 clear C3 C4 KT KU HO R1 HB HB2 R2
 obtain⟨⟨a0,a1,a2,a3,a4,a5⟩,⟨af0,af1,af2,af3,af4,af5⟩⟩:=six_of HB3.out
 go_upto_region 6 with (fail)
 have HD:=yH (Bk.new w3 25 #[yI 500,yI 900,yI 0,yI 0,yI 0,.string sE14])
 have HB4:=yH (HB3.out.alloc (.cells #[yI 500,yI 900,yI 0,yI 0,yI 0,.string sE14] 25))
 have R4:=yH (R3.out.alloc (.cells #[yI 500,yI 900,yI 0,yI 0,yI 0,.string sE14] 25))
 have hAD:gA≠w3.heap.size:=by have:=HB3.out.lt;omega
 have sD:w.heap.size≤w3.heap.size:=R3.out.size
 obtain⟨W4,hW4⟩:∃W,w3.alloc (.cells #[yI 500,yI 900,yI 0,yI 0,yI 0,.string sE14] 25)=W:=⟨_,rfl⟩
 obtain⟨gD,hgD⟩:∃g,w3.heap.size=g:=⟨_,rfl⟩
 rw[hW4] at HD HB4 R4
 rw[hgD] at HD hAD sD
 try rw[hW4]
 try rw[hgD]
 clear hW4 hgD
 clear a0 a1 a2 a3 a4 a5 af0 af1 af2 af3 af4 af5
 obtain⟨⟨a0,a1,a2,a3,a4,a5⟩,⟨af0,af1,af2,af3,af4,af5⟩⟩:=six_of HB4.out
 obtain⟨⟨d0,d1,d2,d3,d4,d5⟩,⟨df0,df1,df2,df3,df4,df5⟩⟩:=six_of HD.out
 go_upto_region 7 with (fail)
 have HD5:=yH (show Bk (W4.setCell ⟨gD,2,none⟩ (yI 901)) gD 25 #[yI 500,yI 900,yI 901,yI 0,yI 0,.string sE14] from HD.out.set_ 2 (yI 901))
 have HB5:=yH (HB4.out.far (p:=⟨gD,2,none⟩) hAD (yI 901))
 have R5:=yH (R4.out.setCell (p:=⟨gD,2,none⟩) sD (yI 901))
 obtain⟨W5,hW5⟩:∃W,W4.setCell ⟨gD,2,none⟩ (yI 901)=W:=⟨_,rfl⟩
 rw[hW5] at HD5 HB5 R5
 try rw[hW5]
 clear hW5
 clear a0 a1 a2 a3 a4 a5 af0 af1 af2 af3 af4 af5
 clear d0 d1 d2 d3 d4 d5 df0 df1 df2 df3 df4 df5
 obtain⟨⟨a0,a1,a2,a3,a4,a5⟩,⟨af0,af1,af2,af3,af4,af5⟩⟩:=six_of HB5.out
 go_upto_region 8 with (fail)
 have HF:=yH (Bk.new W5 25 #[yI 500,yI 900,yI 0,yI 0,yI 0,.string sE14])
 have HB6:=yH (HB5.out.alloc (.cells #[yI 500,yI 900,yI 0,yI 0,yI 0,.string sE14] 25))
 have HD6:=yH (HD5.out.alloc (.cells #[yI 500,yI 900,yI 0,yI 0,yI 0,.string sE14] 25))
 have R6:=yH (R5.out.alloc (.cells #[yI 500,yI 900,yI 0,yI 0,yI 0,.string sE14] 25))
 have hAF:gA≠W5.heap.size:=by have:=HB5.out.lt;omega
 have hDF:gD≠W5.heap.size:=by have:=HD5.out.lt;omega
 have sF:w.heap.size≤W5.heap.size:=R5.out.size
 obtain⟨W6,hW6⟩:∃W,W5.alloc (.cells #[yI 500,yI 900,yI 0,yI 0,yI 0,.string sE14] 25)=W:=⟨_,rfl⟩
 obtain⟨gF,hgF⟩:∃g,W5.heap.size=g:=⟨_,rfl⟩
 rw[hW6] at HF HB6 HD6 R6
 rw[hgF] at HF hAF hDF sF
 try rw[hW6]
 try rw[hgF]
 clear hW6 hgF
 clear a0 a1 a2 a3 a4 a5 af0 af1 af2 af3 af4 af5
 obtain⟨⟨f0,f1,f2,f3,f4,f5⟩,⟨ff0,ff1,ff2,ff3,ff4,ff5⟩⟩:=six_of HF.out
 go_upto_region 9 with (fail)
 have HF7:=yH (show Bk (W6.setCell ⟨gF,5,none⟩ (.string ⟨#[108,101,115,115]⟩)) gF 25 #[yI 500,yI 900,yI 0,yI 0,yI 0,.string ⟨#[108,101,115,115]⟩] from HF.out.set_ 5 (.string ⟨#[108,101,115,115]⟩))
 have HB7:=yH (HB6.out.far (p:=⟨gF,5,none⟩) hAF (.string ⟨#[108,101,115,115]⟩))
 have HD7:=yH (HD6.out.far (p:=⟨gF,5,none⟩) hDF (.string ⟨#[108,101,115,115]⟩))
 have R7:=yH (R6.out.setCell (p:=⟨gF,5,none⟩) sF (.string ⟨#[108,101,115,115]⟩))
 obtain⟨W7,hW7⟩:∃W,W6.setCell ⟨gF,5,none⟩ (.string ⟨#[108,101,115,115]⟩)=W:=⟨_,rfl⟩
 rw[hW7] at HF7 HB7 HD7 R7
 try rw[hW7]
 clear hW7
 clear f0 f1 f2 f3 f4 f5 ff0 ff1 ff2 ff3 ff4 ff5
 clear HB3 HB4 HB5 HB6 HD HD5 HD6 HF R3 R4 R5 R6 hAD hAF hDF sA sD sF
 have Q7:=yH R7.out.self
 obtain⟨⟨a0,a1,a2,a3,a4,a5⟩,_⟩:=six_of HB7.out
 obtain⟨⟨d0,d1,d2,d3,d4,d5⟩,_⟩:=six_of HD7.out
 obtain⟨⟨f0,f1,f2,f3,f4,f5⟩,_⟩:=six_of HF7.out
 go_wp2_with (first
  |(go_at_call 11;(with_reducible refine(KA.out W7 Q7.out.self).mono ?_);rintro e w20 ⟨rfl,r0⟩;have Q8:=yH (Q7.out.trans r0.out);clear r0;obtain⟨⟨a0,a1,a2,a3,a4,a5⟩,_⟩:=six_of (HB7.out.rel Q8.out);obtain⟨⟨d0,d1,d2,d3,d4,d5⟩,_⟩:=six_of (HD7.out.rel Q8.out);obtain⟨⟨f0,f1,f2,f3,f4,f5⟩,_⟩:=six_of (HF7.out.rel Q8.out))
  |(go_at_call 11;(with_reducible refine(KD.out w20 Q8.out.self).mono ?_);rintro e w21 ⟨rfl,r1⟩;have Q9:=yH (Q8.out.trans r1.out);clear r1;obtain⟨⟨a0,a1,a2,a3,a4,a5⟩,_⟩:=six_of (HB7.out.rel Q9.out);obtain⟨⟨d0,d1,d2,d3,d4,d5⟩,_⟩:=six_of (HD7.out.rel Q9.out);obtain⟨⟨f0,f1,f2,f3,f4,f5⟩,_⟩:=six_of (HF7.out.rel Q9.out))
  |(go_at_call 11;(with_reducible refine(KF.out w21 Q9.out.self).mono ?_);rintro e w22 ⟨rfl,r2⟩;have Q10:=yH (Q9.out.trans r2.out);clear r2;obtain⟨⟨a0,a1,a2,a3,a4,a5⟩,_⟩:=six_of (HB7.out.rel Q10.out);obtain⟨⟨d0,d1,d2,d3,d4,d5⟩,_⟩:=six_of (HD7.out.rel Q10.out);obtain⟨⟨f0,f1,f2,f3,f4,f5⟩,_⟩:=six_of (HF7.out.rel Q10.out))
  |(go_at_call 13;(with_reducible refine(KL.out w22 Q10.out.self).mono ?_);rintro e w23 ⟨rfl,r3⟩;have Q11:=yH (Q10.out.trans r3.out);clear r3;obtain⟨⟨a0,a1,a2,a3,a4,a5⟩,_⟩:=six_of (HB7.out.rel Q11.out);obtain⟨⟨d0,d1,d2,d3,d4,d5⟩,_⟩:=six_of (HD7.out.rel Q11.out);obtain⟨⟨f0,f1,f2,f3,f4,f5⟩,_⟩:=six_of (HF7.out.rel Q11.out))
  |(go_at_call 15;(with_reducible refine(KW.out w23 Q11.out.self).mono ?_);rintro e w24 ⟨rfl,r4⟩;have Q12:=yH (Q11.out.trans r4.out);clear r4;obtain⟨⟨a0,a1,a2,a3,a4,a5⟩,_⟩:=six_of (HB7.out.rel Q12.out);obtain⟨⟨d0,d1,d2,d3,d4,d5⟩,_⟩:=six_of (HD7.out.rel Q12.out);obtain⟨⟨f0,f1,f2,f3,f4,f5⟩,_⟩:=six_of (HF7.out.rel Q12.out))
  |(go_at_call 15;(with_reducible refine(KX.out w24 Q12.out.self).mono ?_);rintro e w25 ⟨rfl,r5⟩;have Q13:=yH (Q12.out.trans r5.out);clear r5;obtain⟨⟨a0,a1,a2,a3,a4,a5⟩,_⟩:=six_of (HB7.out.rel Q13.out);obtain⟨⟨d0,d1,d2,d3,d4,d5⟩,_⟩:=six_of (HD7.out.rel Q13.out);obtain⟨⟨f0,f1,f2,f3,f4,f5⟩,_⟩:=six_of (HF7.out.rel Q13.out))
  |(go_at_call 15;(with_reducible refine(KY.out w25 Q13.out.self).mono ?_);rintro e w26 ⟨rfl,r6⟩;have Q14:=yH (Q13.out.trans r6.out);clear r6;obtain⟨⟨a0,a1,a2,a3,a4,a5⟩,_⟩:=six_of (HB7.out.rel Q14.out);obtain⟨⟨d0,d1,d2,d3,d4,d5⟩,_⟩:=six_of (HD7.out.rel Q14.out);obtain⟨⟨f0,f1,f2,f3,f4,f5⟩,_⟩:=six_of (HF7.out.rel Q14.out)))
 go_ret
 exact⟨rfl,R7.out.trans Q14.out⟩
theorem OffOwn.row9{w:World}{base:Nat}{v:Value}{os:List Of}(h:OffOwn w base v os):w.ownsRow base 46 2 v os.length (cellsO os):=h
theorem Rel.right3{w w':World}(h:Rel w w'):Rel w' w':=h.self
theorem OffOwn.arg{w:World}{base:Nat}{A:Option Addr}{c:Nat}{os:List Of}(h:OffOwn w base (.slice A os.length c) os)(hf:OffsFit os):OffArg w A c os:=by
 refine⟨?_, ?_,hf,h.offs rfl⟩
 ·rcases h.2 with ⟨h0,h1⟩|⟨g,cap,cur,hv,_,_,hc,_⟩
  ·omega
  ·injection hv with _ _ hv;omega
 ·rcases h.2 with ⟨h0,h1⟩|⟨g,cap,cur,hv,_,_,_,hm,_⟩
  ·injection h0 with _ _ h0;subst h0;exact Nat.zero_le _
  ·injection hv with _ _ hv;omega
theorem add9_next(a:Addr)(n:Nat):a.add (n+1)=⟨(a.add n).block,(a.add n).off+1,none⟩:=by
 unfold Addr.add
 by_cases h:n=0
 ·subst h;simp
 ·simp[h];omega
theorem PairsIn.rel9{w w':World}{A:Option Addr}{n:Nat}{zs:List (Int×Int)}(h:PairsIn w A n zs)(hr:Rel w w'):PairsIn w' A n zs:=⟨h.1,h.2.1,h.2.2.1,h.2.2.2.rel hr⟩
theorem pairs9_at{w:World}{A:Option Addr}{n:Nat}{zs:List (Int×Int)}(h:PairsIn w A n zs){w':World}(hr:Rel w w')(j:Nat)(hj:j<zs.length):
  ∃(a:Addr)(x y:Int),A=some a∧w'.cell? (a.add (j*2))=some (yI x)∧w'.cell? ⟨(a.add (j*2)).block,(a.add (j*2)).off+1,none⟩=some (yI y)∧zs[j]=(x,y)∧i64 x∧i64 y:=by
 obtain⟨_,_,hb,hp⟩:=h
 obtain⟨a,e,hl,c0,c1⟩:=(hp.rel hr) j hj
 have:=hb zs[j] (List.getElem_mem hj)
 rw[add9_next] at c1
 exact⟨a,zs[j].1,zs[j].2,e,c0,c1,rfl,this.1,this.2⟩
theorem offersL_step{zs:List (Int×Int)}{j:Nat}(hj:j<zs.length){x y:Int}(hz:zs[j]=(x,y)){out:List Of}(hl:out.length<8)(b:Bool)(hb:hasS out (sellerL (pk x 60))=b):
  offersL (zs.drop j) out=offersL (zs.drop (j+1)) (if b then out else out++[(sellerL (pk x 60),1+pk y 3000)]):=by
 rw[List.drop_eq_getElem_cons hj,hz,offersL,if_pos hl]
 show(if hasS out (sellerL (pk x 60)) then _ else _)=_
 rw[hb]
 cases b<;>rfl
theorem offersL_full{zs:List (Int×Int)}{out:List Of}(h: ¬out.length<8):offersL zs out=out:=by
 cases zs with
 |nil=>rfl
 |cons z t=>rw[offersL,if_neg h]
def hasTo(out:List Of)(s:List UInt8)(k:Nat):Bool:=(out.take k).any fun o=>decide (o.1=s)
theorem hasTo_step{out:List Of}{s:List UInt8}{k:Nat}(hk:k<out.length):hasTo out s (k+1)=(hasTo out s k||decide (out[k].1=s)):=by
 unfold hasTo
 rw[List.take_succ_eq_append_getElem hk,List.any_append];simp
theorem hasTo_full(out:List Of)(s:List UInt8):hasTo out s out.length=hasS out s:=by unfold hasTo hasS;rw[List.take_length]
def Names(out:List Of):Prop:=∀o∈out,o.1.length≤12∧1≤o.2∧o.2≤3000
theorem names_snoc{out:List Of}(h:Names out){s:List UInt8}{p:Int}(hs:s.length≤12)(h1:1≤p)(h2:p≤3000):Names (out++[(s,p)]):=fun o ho=>by
 rcases List.mem_append.1 ho with ho|ho
 ·exact h o ho
 ·obtain rfl:o=(s,p):=by simpa using ho
  exact⟨hs,h1,h2⟩
theorem pk9_as(c n y:Int)(h:Hid (pk c n=y))(hc: -9223372036854775808≤c)(hc':c≤9223372036854775807)(hn:0<n)(hn':n≤9223372036854775807)(w:World):
  Calls Tryz.prog 27 #[yI c,yI n] w fun e w'=>e= .returned (yI y)∧w=w':=by
 rw[←h.out]
 by_cases h:c<0
 all_goals
  go_enter Tryz.func27,Tryz.ntmps27
  go_wp2
  all_goals
   go_ret
   exact⟨ret_int (by unfold pk;split<;>first|rfl|omega),rfl⟩
theorem offers_any(A:Option Addr)(c:Nat)(zs:List (Int×Int))(w0 w:World)(hr:Rel w0 w)(hz:PairsIn w A zs.length zs):
  Calls Tryz.prog 17 #[.slice A zs.length c] w fun e w'=>∃A2 c2,e= .returned (.slice A2 (offS zs).length c2)∧OffOwn w' w.heap.size (.slice A2 (offS zs).length c2) (offS zs)∧Rel w0 w':=by
 have HR:=yH hr
 have HS:=yH hr.self
 have HZ:=yH hz
 have hzl:zs.length≤9223372036854775807:=hz.2.1
 obtain⟨i0,hi0,hz0,hz1,hz2⟩:=info_parts off_info
 clear hz hr
 go_enter Tryz.func17,Tryz.ntmps17
 go_upto_block 0 with (fail)
 go_cut [3] (fun v wx=>∃A2 c2,v= .slice A2 (offS zs).length c2∧OffOwn wx w.heap.size v (offS zs)∧Rel w wx)
 case first=>
  go_wp2_with (fail)
  go_loopw [3,4] (fun v i wr=>∃(j:Nat)(A2:Option Addr)(c2:Nat)(out:List Of),j≤zs.length∧out.length≤8∧i=yI (j:Int)∧v= .slice A2 out.length c2∧OffOwn wr w.heap.size (.slice A2 out.length c2) out∧Hid (offersL (zs.drop j) out=offS zs)∧Hid (Names out)∧Rel w wr) (fun _ i _=>zs.length-(RowKit.intOf i).toNat)
  case atStart=>exact⟨0,none,0,[],by omega,by simp,rfl,rfl,OffOwn.nil _ _,yH rfl,yH (fun o h=>by cases h),HS.out⟩
  case round=>
   obtain⟨j,A2,c2,out,hj,ho8,rfl,rfl,hO,HN,HF,hRw⟩:=hrel
   have HRw:=yH hRw
   have HO:=yH hO
   clear hO
   by_cases hlt:j<zs.length
   ·by_cases h8:out.length<8
    ·obtain⟨a,x,y,rfl,c0,c1,hxy,hx,hy⟩:=pairs9_at HZ.out hRw j hlt
     have HXY:=yH hxy
     have hsl:(sellerL (pk x 60)).length≤12:=(name_parts (seller_name (pk x 60) (pk_bd x 60 (by omega)).1 (pk_bd x 60 (by omega)).2)).2.2.1
     have hSe:=fun(w0 w:World)(hr:Rel w0 w)=>seller_any x hx.1 hx.2 w0 w hr
     obtain⟨s,hs⟩:∃s,sellerL (pk x 60)=s:=⟨_,rfl⟩
     rw[hs] at hSe hsl
     obtain⟨X,hX⟩:∃X,B s=X:=⟨_,rfl⟩
     rw[hX] at hSe
     have HSe:=yH hSe
     have HSs:=yH hs
     have HX:=yH hX
     clear hxy hSe hs hX
     go_upto_region 6 with (go_at_call 26;(with_reducible refine(HSe.out _ _ HRw.out.self).mono ?_);rintro e w1 ⟨rfl,r1⟩)
     have HR1:=yH r1
     have HRt:=yH (HRw.out.trans r1)
     have HO1:=yH (HO.out.rel r1)
     have d1:=(r1.2.cell (p:=⟨(a.add (j*2)).block,(a.add (j*2)).off+1,none⟩) (blk_of_cell c1)).trans c1
     clear c0 c1 r1 hRw
     go_wp2_with (fail)
     go_loopw [6,7] (fun hv k wr=>∃(q:Nat)(b:Bool),q≤out.length∧k=yI (q:Int)∧hv= .bool b∧Hid (hasTo out s q=b)∧Rel w1 wr) (fun _ k _=>out.length-(RowKit.intOf k).toNat)
     case atStart=>exact⟨0,false,by omega,rfl,rfl,yH rfl,HR1.out.right3⟩
     case round=>
      obtain⟨q,b,hq,rfl,rfl,HQ,hRi⟩:=hrel
      have HRi:=yH hRi
      by_cases hlt2:q<out.length
      ·have hqi:(q:Int)<(out.length:Int):=by omega
       cases b with
       |true=>
        have HX2:=yH (show hasTo out s (q+1)=true by rw[hasTo_step hlt2,HQ.out];rfl)
        clear hRi
        go_wp2_with (fail)
        go_roundw
        case rel=>exact⟨q+1,true,by omega,by go_num,rfl,HX2,HRi.out⟩
        case measure=>simp[RowKit.intOf];omega
       |false=>
        obtain⟨g,off,s',p',rfl,e0,e1,ho2⟩:=offs_at (HO1.out.offs rfl) hRi q hlt2
        obtain⟨Y,hY⟩:∃Y,B s'=Y:=⟨_,rfl⟩
        rw[hY] at e0
        have HY:=yH hY
        have HO2:=yH ho2
        clear hY ho2 e1 hRi
        by_cases he:Y=X
        ·have k1:=list_of.2 he
         have HX2:=yH (show hasTo out s (q+1)=true by
                    rw[hasTo_step hlt2,HQ.out,HO2.out]
                    have:s'=s:=by rw[←B_list s',←B_list s,HY.out,HX.out,he]
                    simp[this])
         clear he
         go_wp2_with (fail)
         go_roundw
         case rel=>exact⟨q+1,true,by omega,by go_num,rfl,HX2,HRi.out⟩
         case measure=>simp[RowKit.intOf];omega
        ·have k1:=list_ne he
         have HX2:=yH (show hasTo out s (q+1)=false by
                    rw[hasTo_step hlt2,HQ.out,HO2.out]
                    have: ¬s'=s:=fun e=>by subst e;exact he (HY.out.symm.trans HX.out)
                    simp[this])
         clear he
         go_wp2_with (fail)
         go_roundw
         case rel=>exact⟨q+1,false,by omega,by go_num,rfl,HX2,HRi.out⟩
         case measure=>simp[RowKit.intOf];omega
      ·obtain rfl:q=out.length:=by omega
       have HO3:=yH (HO1.out.rel hRi)
       have HSt:=yH (offersL_step hlt HXY.out h8 b (by rw[HSs.out,←hasTo_full];exact HQ.out))
       have f1:=(hRi.2.cell (p:=⟨(a.add (j*2)).block,(a.add (j*2)).off+1,none⟩) (blk_of_cell d1)).trans d1
       have HRf:=yH (HRt.out.trans hRi)
       clear hRi d1
       cases b with
       |true=>
        have HN2:=yH (show offersL (zs.drop (j+1)) out=offS zs by rw[←HN.out,HSt.out];rfl)
        go_wp2_with (fail)
        go_roundw
        case rel=>exact⟨j+1,A2,c2,out,by omega,ho8,by go_num,rfl,HO3.out,HN2,HF,HRf.out⟩
        case measure=>simp[RowKit.intOf];omega
       |false=>
        have hp0:=pk_bd y 3000 (by omega)
        obtain⟨P,hP⟩:∃P,pk y 3000=P:=⟨_,rfl⟩
        rw[hP] at hp0
        have HP:=yH hP
        have HN2:=yH (show offersL (zs.drop (j+1)) (out++[(s,1+P)])=offS zs by rw[←HN.out,HSt.out,HSs.out,hP];rfl)
        have HF2:=yH (names_snoc HF.out hsl (show 1≤1+P by omega) (by omega))
        have HLn:=yH (show(out++[(s,1+P)]).length=out.length+1 by simp)
        obtain⟨hP0,hP1⟩:=hp0
        have y0:=hy.1
        have y1:=hy.2
        clear hP
        have hsz:=HRf.out.size
        rw[←HX.out] at*
        go_wp2_with (first
            |(go_at_call 27;(with_reducible refine(pk9_as y 3000 P HP y0 y1 (by omega) (by omega) _).mono ?_);rintro e w2 ⟨rfl,rfl⟩)
            |(at_builtin;(refine wpList_append_lies _ rfl _ _ 27 rfl w.heap.size 46 i0 (.agg #[.string ⟨#[]⟩,yI 0]) 2 24 Tryz.underlying27 hi0 hz0 hz1 hz2 rfl (by decide) _ out.length (cellsO out) rfl (HO3.out.row9.alloc _) ⟨wr.heap.size,0,none⟩ 1 1 (cells2 (s,1+P)) rfl rfl (World.news_of_block (Bk.new wr 46 #[.string (B s),yI (1+P)])) (cells2_one _) (by decide) (by unfold maxLen;omega) (by omega) (by simp;omega) _ rfl ?_);intro g cap w1 hown1 hgrow hat hlt1))
        have hE5:=OffOwn.more (o:=(s,1+P)) hown1
        have hR6:Rel w w1:=(HRf.out.alloc _).grown hgrow (fun k hk=>(HO3.out.row9.lt k hk).1)
        go_roundw
        case rel=>exact⟨j+1,some ⟨g,0,none⟩,cap,out++[(s,1+P)],by omega,by rw[HLn.out];omega,by go_num,by rw[HLn.out],by rw[HLn.out];exact hE5,HN2,HF2,hR6⟩
        case measure=>simp[RowKit.intOf];omega
    ·have HE:=yH (show out=offS zs by rw[←HN.out,offersL_full h8])
     have h8i: ¬(out.length:Int)<8:=by omega
     go_wp2_with (fail)
     go_meet
     exact⟨A2,c2,by rw[←HE.out],by rw[←HE.out];exact HO.out,HRw.out⟩
   ·obtain rfl:j=zs.length:=by omega
    have HE:=yH (show out=offS zs by have:=HN.out;rw[List.drop_length] at this;exact this)
    go_wp2_with (fail)
    all_goals
     go_meet
     exact⟨A2,c2,by rw[←HE.out],by rw[←HE.out];exact HO.out,HRw.out⟩
 obtain⟨A2,c2,rfl,hO,hRL⟩:=hcut
 go_wp2_with (fail)
 go_ret
 exact⟨A2,c2,rfl,hO,HR.out.trans hRL⟩
theorem conf14_open(r0 r1 r2 r3 r4 r5:Int)(L:List Int)(h0:i64 r0)(h1:i64 r1)(h2:i64 r2)(h3:i64 r3)(h4:i64 r4)(h5:i64 r5):∃(f c m o b:Int)(t:List UInt8)(S:ByteArray),B t=S∧checkC (f,c,m,o,b,t)=0∧CfFit (f,c,m,o,b,t)∧(1≤f∧f≤1500∧f≤c∧c≤3500∧0≤m∧m≤c∧0≤o∧o≤12∧0≤b∧b≤60)∧
  ∀(A:Option Addr)(k:Nat)(w:World),Rel w w→IntsIn w A k L→Calls Tryz.prog 10 #[.agg #[yI r0,yI r1,yI r2,yI r3,yI r4,yI r5],.slice A L.length k] w fun e w'=>e= .returned (.agg #[yI f,yI c,yI m,yI o,yI b,.string S])∧Hid (Rel w w'):=by
 have hz:=raw_zero r0 r1 r2 r3 r4 r5 L
 have hC:=fun A k w hr hi=>config14_any r0 r1 r2 r3 r4 r5 L A k w hr hi h0 h1 h2 h3 h4 h5
 have hb:1≤flC (confR r0 r1 r2 r3 r4 r5 L)∧flC (confR r0 r1 r2 r3 r4 r5 L)≤1500∧ceC (confR r0 r1 r2 r3 r4 r5 L)≤3500∧coC (confR r0 r1 r2 r3 r4 r5 L)≤12∧bdC (confR r0 r1 r2 r3 r4 r5 L)≤60:=by
  have p0:=pk_bd r0 1500 (by omega)
  have p1:=pk_bd r1 2000 (by omega)
  have p3:=pk_bd r3 12 (by omega)
  have p4:=pk_bd r4 60 (by omega)
  show 1≤1+pk r0 1500∧1+pk r0 1500≤1500∧1+pk r0 1500+pk r1 2000≤3500∧pk r3 12≤12∧rawB r4≤60
  have hb:0≤rawB r4∧rawB r4<60:=by
   unfold rawB
   split
   ·omega
   ·exact p4
  omega
 obtain⟨⟨f,c,m,o,b,t⟩,hc⟩:∃c,confR r0 r1 r2 r3 r4 r5 L=c:=⟨_,rfl⟩
 rw[hc] at hz hC hb
 have hn:=nums_iff.1 (check_zero.1 hz).1
 have hl:=textE_len (check_zero.1 hz).2
 obtain⟨n0,n1,n2,n3,n4,n5,n6,n7,n8⟩:=hn
 obtain⟨b0,b1,b2,b3,b4⟩:=hb
 replace n0:1≤f:=n0
 replace n1:f≤c:=n1
 replace n3:0≤m:=n3
 replace n4:m≤c:=n4
 replace n5:0≤o:=n5
 replace n7:0≤b:=n7
 replace b0:1≤f:=b0
 replace b1:f≤1500:=b1
 replace b2:c≤3500:=b2
 replace b3:o≤12:=b3
 replace b4:b≤60:=b4
 replace hl:t.length≤2000:=hl
 refine⟨f,c,m,o,b,t,B t,rfl,hz,⟨⟨⟨by show _≤f;omega,by show f≤_;omega⟩,⟨by show _≤c;omega,by show c≤_;omega⟩,⟨by show _≤m;omega,by show m≤_;omega⟩,⟨by show _≤o;omega,by show o≤_;omega⟩,⟨by show _≤b;omega,by show b≤_;omega⟩⟩,by show t.length≤_;omega⟩,⟨b0,b1,n1,b2,n3,n4,n5,b3,n7,b4⟩,fun A k w hr hi=> ?_⟩
 exact(hC A k w hr hi).mono fun e w' h=>⟨h.1,yH h.2⟩
end Go.Proofs.YtfekhbeaphpelaaGreatDoor
