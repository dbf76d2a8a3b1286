/- What is asked of the program in layer 14 (ConfOk); the law's awake; A raw config, opened; the law on targets that are within, walked; The landed parser: an argument, a condition put into the expression being built: the walks; The landed parser: any piece of a call, taken. -/

import Derived.Test.YtfekhbeaphpelaaGreatDoorZ11
set_option maxRecDepth 100000
set_option maxHeartbeats 8000000
namespace Go.Proofs.YtfekhbeaphpelaaGreatDoor
open Go.RowKit Go.Lib
set_option linter.unusedVariables false
set_option linter.unusedSimpArgs false
def CCheckOk:Prop:=∀(c:Cf) (S:ByteArray),B (txC c)=S→CfFit c→∀w:World,Rel w w→Calls Tryz.prog 11 #[.agg #[.int .i64 (flC c),.int .i64 (ceC c),.int .i64 (mpC c),.int .i64 (coC c),.int .i64 (bdC c),.string S]] w fun e w'=>e= .returned (.int .i64 (checkC c))∧Rel w w'
def CLowOk:Prop:=∀(c:Cf) (S:ByteArray),B (txC c)=S→CfFit c→∀w:World,Rel w w→Calls Tryz.prog 13 #[.agg #[.int .i64 (flC c),.int .i64 (ceC c),.int .i64 (mpC c),.int .i64 (coC c),.int .i64 (bdC c),.string S]] w fun e w'=>e= .returned (.int .i64 (lowC c))∧Rel w w'
def CWithinOk:Prop:=∀(c:Cf) (p:Int) (S:ByteArray),B (txC c)=S→CfFit c→i64 p→∀w:World,Rel w w→Calls Tryz.prog 15 #[.agg #[.int .i64 (flC c),.int .i64 (ceC c),.int .i64 (mpC c),.int .i64 (coC c),.int .i64 (bdC c),.string S],.int .i64 p] w fun e w'=>e= .returned (.bool (withinC c p))∧Rel w w'
def CTargetOk:Prop:=∀(c:Cf) (S:ByteArray),B (txC c)=S→CfFit c→∀(os:List Of) (A:Option Addr) (q N:Nat),os.length=N→∀w:World,Rel w w→OffArg w A q os→Calls Tryz.prog 18 #[.agg #[.int .i64 (flC c),.int .i64 (ceC c),.int .i64 (mpC c),.int .i64 (coC c),.int .i64 (bdC c),.string S],.slice A N q] w fun e w'=>e= .returned (.tuple #[.int .i64 (targN c os),.bool (targI c os)])∧Rel w w'
def ConfOk:Prop:=CCheckOk∧CLowOk∧CWithinOk∧CTargetOk
section
variable {f c m o b:Int} {t:List UInt8} {S:ByteArray}
theorem cchk_at(H:ConfOk)(hS:B t=S)(hf:CfFit (f,c,m,o,b,t)){E:Int}(hE:checkC (f,c,m,o,b,t)=E)(w:World)(hr:Rel w w):
  Calls Tryz.prog 11 #[.agg #[.int .i64 f,.int .i64 c,.int .i64 m,.int .i64 o,.int .i64 b,.string S]] w fun e w'=>e= .returned (.int .i64 E)∧Hid (Rel w w'):=by
 rw[←hE]
 exact(H.1 (f,c,m,o,b,t) S hS hf w hr).mono fun e w' ⟨he,h2⟩=>⟨he,yH h2⟩
theorem clow_at(H:ConfOk)(hS:B t=S)(hf:CfFit (f,c,m,o,b,t)){E:Int}(hE:max f m=E)(w:World)(hr:Rel w w):
  Calls Tryz.prog 13 #[.agg #[.int .i64 f,.int .i64 c,.int .i64 m,.int .i64 o,.int .i64 b,.string S]] w fun e w'=>e= .returned (.int .i64 E)∧Hid (Rel w w'):=by
 rw[←hE]
 exact(H.2.1 (f,c,m,o,b,t) S hS hf w hr).mono fun e w' ⟨he,h2⟩=>⟨he,yH h2⟩
theorem cwit_at(H:ConfOk)(hS:B t=S)(hf:CfFit (f,c,m,o,b,t)){p:Int}(hp:i64 p){E:Bool}(hE:withinC (f,c,m,o,b,t) p=E)(w:World)(hr:Rel w w):
  Calls Tryz.prog 15 #[.agg #[.int .i64 f,.int .i64 c,.int .i64 m,.int .i64 o,.int .i64 b,.string S],.int .i64 p] w fun e w'=>e= .returned (.bool E)∧Hid (Rel w w'):=by
 rw[←hE]
 exact(H.2.2.1 (f,c,m,o,b,t) p S hS hf hp w hr).mono fun e w' ⟨he,h2⟩=>⟨he,yH h2⟩
theorem ctar_at(H:ConfOk)(hS:B t=S)(hf:CfFit (f,c,m,o,b,t)){os:List Of}{A:Option Addr}{q:Nat}(N:Nat)(hN:os.length=N){E:Int}{I:Bool}(hE:targN (f,c,m,o,b,t) os=E)(hI:targI (f,c,m,o,b,t) os=I)(w:World)(hr:Rel w w)(ho:OffArg w A q os):
  Calls Tryz.prog 18 #[.agg #[.int .i64 f,.int .i64 c,.int .i64 m,.int .i64 o,.int .i64 b,.string S],.slice A N q] w fun e w'=>e= .returned (.tuple #[.int .i64 E,.bool I])∧Hid (Rel w w'):=by
 rw[←hE,←hI]
 exact(H.2.2.2 (f,c,m,o,b,t) S hS hf os A q N hN w hr ho).mono fun e w' ⟨he,h2⟩=>⟨he,yH h2⟩
end
def tE14:List UInt8:=[108,101,115,115,40,108,111,119,101,115,116,44,32,48,46,48,49,41]
def tL14:List UInt8:=[108,101,115,115]
def xE14:Ex:= .mk 5 1 [] [.mk 1 0 [] []]
def oA14:List Of:=[([97],300)]
theorem xE_text:text xE14=tE14:=by
 unfold xE14
 simp only[text_mk,texts_cons,texts_nil,mores_cons,mores_nil,tailK,txt_1]
 decide
theorem xE_right:rightX xE14=true:=by
 unfold rightX
 rw[xE_text,show size xE14=2 by unfold xE14;simp only[size_mk,sizes_cons,sizes_nil]]
 decide
theorem tE_parse:parseS tE14= .ok xE14:=by rw[←xE_text];exact parse_text xE_right
theorem tL_parse:parseS tL14= .error (80,4):=by
 have h:lx 0 tL14= .ok [(1,[108,101,115,115],0,0),(5,[],0,4)]:=by
  rw[lxF_eq 20 0 tL14 (by decide)];rfl
 unfold parseS
 rw[if_neg (by decide),h]
 rfl
theorem oA_ok:offsOk oA14=true:=by decide
theorem ev_A:evalS oA14 xE14= .ok (some 299):=by
 rw[eval_yes oA_ok xE_right]
 unfold xE14
 rw[told_less5,told_one _ _ _ rfl,show rk oA14 0=some 300 from by decide]
 simp only
 rw[sub_price (by omega) (by omega) (by omega) (by omega)]
 rfl
theorem ev_0:evalS [] xE14= .ok none:=by
 rw[eval_yes offsOk_nil xE_right]
 unfold xE14
 rw[told_less5,told_one _ _ _ rfl]
 rfl
theorem ckA:checkC (500,900,0,0,0,tE14)=0:=check_zero.2 ⟨by decide,textE_zero.2 ⟨xE14,tE_parse,xE_right⟩⟩
theorem ckD:checkC (500,900,901,0,0,tE14)=10:=by unfold checkC;rw[if_neg (by decide)]
theorem ckF:checkC (500,900,0,0,0,tL14)=80:=by unfold checkC;rw[if_pos (by decide)];exact textE_error tL_parse
theorem wiA:withinC (500,900,0,0,0,tE14) 900=true:=by unfold withinC;exact decide_eq_true ⟨ckA,by decide,by decide⟩
theorem wiB:withinC (500,900,0,0,0,tE14) 901=false:=by unfold withinC;exact decide_eq_false fun h=>by have:=h.2.2;exact absurd this (by decide)
theorem wiD:withinC (500,900,901,0,0,tE14) 900=false:=by unfold withinC;exact decide_eq_false fun h=>by have:=h.1;rw[ckD] at this;omega
theorem taA:targetC (500,900,0,0,0,tE14) oA14=some 500:=by
 unfold targetC tellT
 rw[if_pos ckA,show txC (500,900,0,0,0,tE14)=tE14 from rfl,tE_parse]
 simp only[ev_A]
 rfl
theorem ta0:targetC (500,900,0,0,0,tE14) []=none:=by
 unfold targetC tellT
 rw[if_pos ckA,show txC (500,900,0,0,0,tE14)=tE14 from rfl,tE_parse]
 simp only[ev_0]
 rfl
theorem fit14{m:Int}{t:List UInt8}(hm:i64 m)(ht:t.length≤9223372036854775807):CfFit (500,900,m,0,0,t):=⟨⟨(show i64 500 from⟨by decide,by decide⟩),(show i64 900 from⟨by decide,by decide⟩),hm,(show i64 0 from⟨by decide,by decide⟩),(show i64 0 from⟨by decide,by decide⟩)⟩,ht⟩
theorem oA_arg{w:World}{g:Nat}(h:Bk w g 46 #[.string ⟨#[97]⟩,.int .i64 300]):OffArg w (some ⟨g,0,none⟩) 1 oA14:=
 ⟨by decide,by decide,offs_fit oA_ok,OffsAt.of_bk (os:=oA14) h⟩
theorem awake14_any(H:ConfOk)(w:World)(hr:Rel w w):
  Calls Tryz.prog 9 #[] w fun e w'=>e= .returned (.bool true)∧Rel w w':=by
 have HR:=yH hr
 have fA:=fit14 (m:=0) (t:=tE14) ⟨by decide,by decide⟩ (by decide)
 have fD:=fit14 (m:=901) (t:=tE14) ⟨by decide,by decide⟩ (by decide)
 have fF:=fit14 (m:=0) (t:=tL14) ⟨by decide,by decide⟩ (by decide)
 have KA:=yH (fun(w:World) (hr:Rel w w)=>cchk_at H (S:=⟨#[108,101,115,115,40,108,111,119,101,115,116,44,32,48,46,48,49,41]⟩) rfl fA ckA w hr)
 have KD:=yH (fun(w:World) (hr:Rel w w)=>cchk_at H (S:=⟨#[108,101,115,115,40,108,111,119,101,115,116,44,32,48,46,48,49,41]⟩) rfl fD ckD w hr)
 have KF:=yH (fun(w:World) (hr:Rel w w)=>cchk_at H (S:=⟨#[108,101,115,115]⟩) rfl fF ckF w hr)
 have KL:=yH (fun(w:World) (hr:Rel w w)=>clow_at H (S:=⟨#[108,101,115,115,40,108,111,119,101,115,116,44,32,48,46,48,49,41]⟩) rfl fA (show max (500:Int) 0=500 by decide) w hr)
 have KW:=yH (fun(w:World) (hr:Rel w w)=>cwit_at H (S:=⟨#[108,101,115,115,40,108,111,119,101,115,116,44,32,48,46,48,49,41]⟩) rfl fA ⟨by decide,by decide⟩ wiA w hr)
 have KX:=yH (fun(w:World) (hr:Rel w w)=>cwit_at H (S:=⟨#[108,101,115,115,40,108,111,119,101,115,116,44,32,48,46,48,49,41]⟩) rfl fA ⟨by decide,by decide⟩ wiB w hr)
 have KY:=yH (fun(w:World) (hr:Rel w w)=>cwit_at H (S:=⟨#[108,101,115,115,40,108,111,119,101,115,116,44,32,48,46,48,49,41]⟩) rfl fD ⟨by decide,by decide⟩ wiD w hr)
 have KT:=yH (fun(w:World) (g:Nat) (hr:Rel w w) (ho:OffArg w (some ⟨g,0,none⟩) 1 oA14)=>ctar_at H (S:=⟨#[108,101,115,115,40,108,111,119,101,115,116,44,32,48,46,48,49,41]⟩) rfl fA 1 rfl (show targN (500,900,0,0,0,tE14) oA14=500 by unfold targN;rw[taA];rfl) (show targI (500,900,0,0,0,tE14) oA14=true by unfold targI;rw[taA];rfl) w hr ho)
 have KU:=yH (fun(w:World) (hr:Rel w w)=>ctar_at H (S:=⟨#[108,101,115,115,40,108,111,119,101,115,116,44,32,48,46,48,49,41]⟩) rfl fA 0 rfl (show targN (500,900,0,0,0,tE14) []=0 by unfold targN;rw[ta0];rfl) (show targI (500,900,0,0,0,tE14) []=false by unfold targI;rw[ta0];rfl) w hr (offArg_nil w))
 clear H hr fA fD fF
 go_enter Tryz.func9,Tryz.ntmps9
 go_upto_region 3 with (fail)
 have HB:=yH ((Bk.new w 25 #[.int .i64 500,.int .i64 900,.int .i64 0,.int .i64 0,.int .i64 0,.string ⟨#[108,101,115,115,40,108,111,119,101,115,116,44,32,48,46,48,49,41]⟩]).alloc (.cells #[.string ⟨#[97]⟩,.int .i64 300] 46))
 have HO:=yH (Bk.new (w.alloc (.cells #[.int .i64 500,.int .i64 900,.int .i64 0,.int .i64 0,.int .i64 0,.string ⟨#[108,101,115,115,40,108,111,119,101,115,116,44,32,48,46,48,49,41]⟩] 25)) 46 #[.string ⟨#[97]⟩,.int .i64 300])
 have R1:=yH ((HR.out.alloc (.cells #[.int .i64 500,.int .i64 900,.int .i64 0,.int .i64 0,.int .i64 0,.string ⟨#[108,101,115,115,40,108,111,119,101,115,116,44,32,48,46,48,49,41]⟩] 25)).alloc (.cells #[.string ⟨#[97]⟩,.int .i64 300] 46))
 rw[World.size_alloc] at HO
 obtain⟨W1,hW1⟩:∃W,(w.alloc (.cells #[.int .i64 500,.int .i64 900,.int .i64 0,.int .i64 0,.int .i64 0,.string ⟨#[108,101,115,115,40,108,111,119,101,115,116,44,32,48,46,48,49,41]⟩] 25)).alloc (.cells #[.string ⟨#[97]⟩,.int .i64 300] 46)=W:=⟨_,rfl⟩
 rw[hW1] at HB HO R1
 try rw[hW1]
 obtain⟨gO,hgO⟩:∃g,w.heap.size+1=g:=⟨_,rfl⟩
 rw[hgO] at HO
 try rw[hgO]
 obtain⟨gA,hgA⟩:∃g,w.heap.size=g:=⟨_,rfl⟩
 rw[hgA] at HB
 try rw[hgA]
 have sA:w.heap.size≤gA:=by omega
 clear hW1 hgO hgA
 obtain⟨⟨a0,a1,a2,a3,a4,a5⟩,⟨af0,af1,af2,af3,af4,af5⟩⟩:=six_of HB.out
 have C3:=yH (KT.out W1 gO R1.out.self (oA_arg HO.out))
 go_upto_region 4 with (go_at_call 18;(with_reducible refine C3.out.mono ?_);rintro e w2 ⟨rfl,r2⟩;have R2:=yH (R1.out.trans r2.out);have HB2:=yH (HB.out.rel r2.out);clear r2)
 clear a0 a1 a2 a3 a4 a5 af0 af1 af2 af3 af4 af5
 obtain⟨⟨a0,a1,a2,a3,a4,a5⟩,⟨af0,af1,af2,af3,af4,af5⟩⟩:=six_of HB2.out
 have C4:=yH (KU.out w2 R2.out.self)
 go_upto_region 5 with (go_at_call 18;(with_reducible refine C4.out.mono ?_);rintro e w3 ⟨rfl,r3⟩;have R3:=yH (R2.out.trans r3.out);have HB3:=yH (HB2.out.rel r3.out);clear r3)
 clear a0 a1 a2 a3 a4 a5 af0 af1 af2 af3 af4 af5
 clear C3 C4 KT KU HO R1 HB HB2 R2
 obtain⟨⟨a0,a1,a2,a3,a4,a5⟩,⟨af0,af1,af2,af3,af4,af5⟩⟩:=six_of HB3.out
 go_upto_region 6 with (fail)
 have HD:=yH (Bk.new w3 25 #[.int .i64 500,.int .i64 900,.int .i64 0,.int .i64 0,.int .i64 0,.string ⟨#[108,101,115,115,40,108,111,119,101,115,116,44,32,48,46,48,49,41]⟩])
 have HB4:=yH (HB3.out.alloc (.cells #[.int .i64 500,.int .i64 900,.int .i64 0,.int .i64 0,.int .i64 0,.string ⟨#[108,101,115,115,40,108,111,119,101,115,116,44,32,48,46,48,49,41]⟩] 25))
 have R4:=yH (R3.out.alloc (.cells #[.int .i64 500,.int .i64 900,.int .i64 0,.int .i64 0,.int .i64 0,.string ⟨#[108,101,115,115,40,108,111,119,101,115,116,44,32,48,46,48,49,41]⟩] 25))
 have hAD:gA≠w3.heap.size:=by have:=HB3.out.lt;omega
 have sD:w.heap.size≤w3.heap.size:=R3.out.size
 obtain⟨W4,hW4⟩:∃W,w3.alloc (.cells #[.int .i64 500,.int .i64 900,.int .i64 0,.int .i64 0,.int .i64 0,.string ⟨#[108,101,115,115,40,108,111,119,101,115,116,44,32,48,46,48,49,41]⟩] 25)=W:=⟨_,rfl⟩
 obtain⟨gD,hgD⟩:∃g,w3.heap.size=g:=⟨_,rfl⟩
 rw[hW4] at HD HB4 R4
 rw[hgD] at HD hAD sD
 try rw[hW4]
 try rw[hgD]
 clear hW4 hgD
 clear a0 a1 a2 a3 a4 a5 af0 af1 af2 af3 af4 af5
 obtain⟨⟨a0,a1,a2,a3,a4,a5⟩,⟨af0,af1,af2,af3,af4,af5⟩⟩:=six_of HB4.out
 obtain⟨⟨d0,d1,d2,d3,d4,d5⟩,⟨df0,df1,df2,df3,df4,df5⟩⟩:=six_of HD.out
 go_upto_region 7 with (fail)
 have HD5:=yH (show Bk (W4.setCell ⟨gD,2,none⟩ (.int .i64 901)) gD 25 #[.int .i64 500,.int .i64 900,.int .i64 901,.int .i64 0,.int .i64 0,.string ⟨#[108,101,115,115,40,108,111,119,101,115,116,44,32,48,46,48,49,41]⟩] from HD.out.set_ 2 (.int .i64 901))
 have HB5:=yH (HB4.out.far (p:=⟨gD,2,none⟩) hAD (.int .i64 901))
 have R5:=yH (R4.out.setCell (p:=⟨gD,2,none⟩) sD (.int .i64 901))
 obtain⟨W5,hW5⟩:∃W,W4.setCell ⟨gD,2,none⟩ (.int .i64 901)=W:=⟨_,rfl⟩
 rw[hW5] at HD5 HB5 R5
 try rw[hW5]
 clear hW5
 clear a0 a1 a2 a3 a4 a5 af0 af1 af2 af3 af4 af5
 clear d0 d1 d2 d3 d4 d5 df0 df1 df2 df3 df4 df5
 obtain⟨⟨a0,a1,a2,a3,a4,a5⟩,⟨af0,af1,af2,af3,af4,af5⟩⟩:=six_of HB5.out
 go_upto_region 8 with (fail)
 have HF:=yH (Bk.new W5 25 #[.int .i64 500,.int .i64 900,.int .i64 0,.int .i64 0,.int .i64 0,.string ⟨#[108,101,115,115,40,108,111,119,101,115,116,44,32,48,46,48,49,41]⟩])
 have HB6:=yH (HB5.out.alloc (.cells #[.int .i64 500,.int .i64 900,.int .i64 0,.int .i64 0,.int .i64 0,.string ⟨#[108,101,115,115,40,108,111,119,101,115,116,44,32,48,46,48,49,41]⟩] 25))
 have HD6:=yH (HD5.out.alloc (.cells #[.int .i64 500,.int .i64 900,.int .i64 0,.int .i64 0,.int .i64 0,.string ⟨#[108,101,115,115,40,108,111,119,101,115,116,44,32,48,46,48,49,41]⟩] 25))
 have R6:=yH (R5.out.alloc (.cells #[.int .i64 500,.int .i64 900,.int .i64 0,.int .i64 0,.int .i64 0,.string ⟨#[108,101,115,115,40,108,111,119,101,115,116,44,32,48,46,48,49,41]⟩] 25))
 have hAF:gA≠W5.heap.size:=by have:=HB5.out.lt;omega
 have hDF:gD≠W5.heap.size:=by have:=HD5.out.lt;omega
 have sF:w.heap.size≤W5.heap.size:=R5.out.size
 obtain⟨W6,hW6⟩:∃W,W5.alloc (.cells #[.int .i64 500,.int .i64 900,.int .i64 0,.int .i64 0,.int .i64 0,.string ⟨#[108,101,115,115,40,108,111,119,101,115,116,44,32,48,46,48,49,41]⟩] 25)=W:=⟨_,rfl⟩
 obtain⟨gF,hgF⟩:∃g,W5.heap.size=g:=⟨_,rfl⟩
 rw[hW6] at HF HB6 HD6 R6
 rw[hgF] at HF hAF hDF sF
 try rw[hW6]
 try rw[hgF]
 clear hW6 hgF
 clear a0 a1 a2 a3 a4 a5 af0 af1 af2 af3 af4 af5
 obtain⟨⟨f0,f1,f2,f3,f4,f5⟩,⟨ff0,ff1,ff2,ff3,ff4,ff5⟩⟩:=six_of HF.out
 go_upto_region 9 with (fail)
 have HF7:=yH (show Bk (W6.setCell ⟨gF,5,none⟩ (.string ⟨#[108,101,115,115]⟩)) gF 25 #[.int .i64 500,.int .i64 900,.int .i64 0,.int .i64 0,.int .i64 0,.string ⟨#[108,101,115,115]⟩] from HF.out.set_ 5 (.string ⟨#[108,101,115,115]⟩))
 have HB7:=yH (HB6.out.far (p:=⟨gF,5,none⟩) hAF (.string ⟨#[108,101,115,115]⟩))
 have HD7:=yH (HD6.out.far (p:=⟨gF,5,none⟩) hDF (.string ⟨#[108,101,115,115]⟩))
 have R7:=yH (R6.out.setCell (p:=⟨gF,5,none⟩) sF (.string ⟨#[108,101,115,115]⟩))
 obtain⟨W7,hW7⟩:∃W,W6.setCell ⟨gF,5,none⟩ (.string ⟨#[108,101,115,115]⟩)=W:=⟨_,rfl⟩
 rw[hW7] at HF7 HB7 HD7 R7
 try rw[hW7]
 clear hW7
 clear f0 f1 f2 f3 f4 f5 ff0 ff1 ff2 ff3 ff4 ff5
 clear HB3 HB4 HB5 HB6 HD HD5 HD6 HF R3 R4 R5 R6 hAD hAF hDF sA sD sF
 have Q7:=yH R7.out.self
 obtain⟨⟨a0,a1,a2,a3,a4,a5⟩,_⟩:=six_of HB7.out
 obtain⟨⟨d0,d1,d2,d3,d4,d5⟩,_⟩:=six_of HD7.out
 obtain⟨⟨f0,f1,f2,f3,f4,f5⟩,_⟩:=six_of HF7.out
 go_wp2_with (first
  |(go_at_call 11;(with_reducible refine(KA.out W7 Q7.out.self).mono ?_);rintro e w20 ⟨rfl,r0⟩;have Q8:=yH (Q7.out.trans r0.out);clear r0;obtain⟨⟨a0,a1,a2,a3,a4,a5⟩,_⟩:=six_of (HB7.out.rel Q8.out);obtain⟨⟨d0,d1,d2,d3,d4,d5⟩,_⟩:=six_of (HD7.out.rel Q8.out);obtain⟨⟨f0,f1,f2,f3,f4,f5⟩,_⟩:=six_of (HF7.out.rel Q8.out))
  |(go_at_call 11;(with_reducible refine(KD.out w20 Q8.out.self).mono ?_);rintro e w21 ⟨rfl,r1⟩;have Q9:=yH (Q8.out.trans r1.out);clear r1;obtain⟨⟨a0,a1,a2,a3,a4,a5⟩,_⟩:=six_of (HB7.out.rel Q9.out);obtain⟨⟨d0,d1,d2,d3,d4,d5⟩,_⟩:=six_of (HD7.out.rel Q9.out);obtain⟨⟨f0,f1,f2,f3,f4,f5⟩,_⟩:=six_of (HF7.out.rel Q9.out))
  |(go_at_call 11;(with_reducible refine(KF.out w21 Q9.out.self).mono ?_);rintro e w22 ⟨rfl,r2⟩;have Q10:=yH (Q9.out.trans r2.out);clear r2;obtain⟨⟨a0,a1,a2,a3,a4,a5⟩,_⟩:=six_of (HB7.out.rel Q10.out);obtain⟨⟨d0,d1,d2,d3,d4,d5⟩,_⟩:=six_of (HD7.out.rel Q10.out);obtain⟨⟨f0,f1,f2,f3,f4,f5⟩,_⟩:=six_of (HF7.out.rel Q10.out))
  |(go_at_call 13;(with_reducible refine(KL.out w22 Q10.out.self).mono ?_);rintro e w23 ⟨rfl,r3⟩;have Q11:=yH (Q10.out.trans r3.out);clear r3;obtain⟨⟨a0,a1,a2,a3,a4,a5⟩,_⟩:=six_of (HB7.out.rel Q11.out);obtain⟨⟨d0,d1,d2,d3,d4,d5⟩,_⟩:=six_of (HD7.out.rel Q11.out);obtain⟨⟨f0,f1,f2,f3,f4,f5⟩,_⟩:=six_of (HF7.out.rel Q11.out))
  |(go_at_call 15;(with_reducible refine(KW.out w23 Q11.out.self).mono ?_);rintro e w24 ⟨rfl,r4⟩;have Q12:=yH (Q11.out.trans r4.out);clear r4;obtain⟨⟨a0,a1,a2,a3,a4,a5⟩,_⟩:=six_of (HB7.out.rel Q12.out);obtain⟨⟨d0,d1,d2,d3,d4,d5⟩,_⟩:=six_of (HD7.out.rel Q12.out);obtain⟨⟨f0,f1,f2,f3,f4,f5⟩,_⟩:=six_of (HF7.out.rel Q12.out))
  |(go_at_call 15;(with_reducible refine(KX.out w24 Q12.out.self).mono ?_);rintro e w25 ⟨rfl,r5⟩;have Q13:=yH (Q12.out.trans r5.out);clear r5;obtain⟨⟨a0,a1,a2,a3,a4,a5⟩,_⟩:=six_of (HB7.out.rel Q13.out);obtain⟨⟨d0,d1,d2,d3,d4,d5⟩,_⟩:=six_of (HD7.out.rel Q13.out);obtain⟨⟨f0,f1,f2,f3,f4,f5⟩,_⟩:=six_of (HF7.out.rel Q13.out))
  |(go_at_call 15;(with_reducible refine(KY.out w25 Q13.out.self).mono ?_);rintro e w26 ⟨rfl,r6⟩;have Q14:=yH (Q13.out.trans r6.out);clear r6;obtain⟨⟨a0,a1,a2,a3,a4,a5⟩,_⟩:=six_of (HB7.out.rel Q14.out);obtain⟨⟨d0,d1,d2,d3,d4,d5⟩,_⟩:=six_of (HD7.out.rel Q14.out);obtain⟨⟨f0,f1,f2,f3,f4,f5⟩,_⟩:=six_of (HF7.out.rel Q14.out)))
 go_ret
 exact⟨rfl,R7.out.trans Q14.out⟩
theorem conf14_open(r0 r1 r2 r3 r4 r5:Int)(L:List Int)(h0:i64 r0)(h1:i64 r1)(h2:i64 r2)(h3:i64 r3)(h4:i64 r4)(h5:i64 r5):∃(f c m o b:Int) (t:List UInt8) (S:ByteArray),B t=S∧checkC (f,c,m,o,b,t)=0∧CfFit (f,c,m,o,b,t)∧(1≤f∧f≤1500∧f≤c∧c≤3500∧0≤m∧m≤c∧0≤o∧o≤12∧0≤b∧b≤60)∧
  ∀(A:Option Addr) (k:Nat) (w:World),Rel w w→IntsIn w A k L→Calls Tryz.prog 10 #[.agg #[.int .i64 r0,.int .i64 r1,.int .i64 r2,.int .i64 r3,.int .i64 r4,.int .i64 r5],.slice A L.length k] w fun e w'=>e= .returned (.agg #[.int .i64 f,.int .i64 c,.int .i64 m,.int .i64 o,.int .i64 b,.string S])∧Hid (Rel w w'):=by
 have hz:=raw_zero r0 r1 r2 r3 r4 r5 L
 have hC:=fun A k w hr hi=>config14_any r0 r1 r2 r3 r4 r5 L A k w hr hi h0 h1 h2 h3 h4 h5
 have hb:1≤flC (confR r0 r1 r2 r3 r4 r5 L)∧flC (confR r0 r1 r2 r3 r4 r5 L)≤1500∧ceC (confR r0 r1 r2 r3 r4 r5 L)≤3500∧coC (confR r0 r1 r2 r3 r4 r5 L)≤12∧bdC (confR r0 r1 r2 r3 r4 r5 L)≤60:=by
  have p0:=pk_bd r0 1500 (by omega)
  have p1:=pk_bd r1 2000 (by omega)
  have p3:=pk_bd r3 12 (by omega)
  have p4:=pk_bd r4 60 (by omega)
  show 1≤1+pk r0 1500∧1+pk r0 1500≤1500∧1+pk r0 1500+pk r1 2000≤3500∧pk r3 12≤12∧rawB r4≤60
  have hb:0≤rawB r4∧rawB r4<60:=by
   unfold rawB
   split
   ·omega
   ·exact p4
  omega
 obtain⟨⟨f,c,m,o,b,t⟩,hc⟩:∃c,confR r0 r1 r2 r3 r4 r5 L=c:=⟨_,rfl⟩
 rw[hc] at hz hC hb
 have hn:=nums_iff.1 (check_zero.1 hz).1
 have hl:=textE_len (check_zero.1 hz).2
 obtain⟨n0,n1,n2,n3,n4,n5,n6,n7,n8⟩:=hn
 obtain⟨b0,b1,b2,b3,b4⟩:=hb
 replace n0:1≤f:=n0
 replace n1:f≤c:=n1
 replace n3:0≤m:=n3
 replace n4:m≤c:=n4
 replace n5:0≤o:=n5
 replace n7:0≤b:=n7
 replace b0:1≤f:=b0
 replace b1:f≤1500:=b1
 replace b2:c≤3500:=b2
 replace b3:o≤12:=b3
 replace b4:b≤60:=b4
 replace hl:t.length≤2000:=hl
 refine⟨f,c,m,o,b,t,B t,rfl,hz,⟨⟨⟨by show _≤f;omega,by show f≤_;omega⟩,⟨by show _≤c;omega,by show c≤_;omega⟩,⟨by show _≤m;omega,by show m≤_;omega⟩,⟨by show _≤o;omega,by show o≤_;omega⟩,⟨by show _≤b;omega,by show b≤_;omega⟩⟩,by show t.length≤_;omega⟩,⟨b0,b1,n1,b2,n3,n4,n5,b3,n7,b4⟩,fun A k w hr hi=> ?_⟩
 exact(hC A k w hr hi).mono fun e w' h=>⟨h.1,yH h.2⟩
theorem parg_yes(d:Nat)(E:ExprOk d)(V U:World)(g gx a:Nat)(had:a+d=32)(x:Ex)(ts:List Tok)(hx:x.l.length≤2)(y:Ex)(r:List Tok)(hr:exprT d false ts= .ok (y,r))(w:World)(h:InP V U w g gx a x ts):
  Calls Tryz.prog 98 #[.pointer (some ⟨g,0,none⟩),.pointer (some ⟨gx,0,none⟩)] w (PcPost V U g gx a (stepP (exprT d) .ar x ts)):=by
 obtain⟨i0,hi,hz0,hz1,hz2'⟩:=info_parts ex_info
 have HI:=yH h
 have HR:=yH (show stepP (exprT d) .ar x ts= .ok (x.push y,r) by unfold stepP;rw[hr])
 have HR0:=yH hr
 obtain⟨hs,hg,hU,hG,A,c,es,hX⟩:=h
 have HD:=yH (hs.V.1.self.drew)
 have HDA:=yH (hs.V.1.self.alloc (.cells #[.int .i64 0,.int .i64 0,.string ⟨#[]⟩,.slice none 0 0] 52)).drew
 have HXX:=yH hX
 obtain⟨n,hn⟩:∃n,es.length=n:=⟨_,rfl⟩
 have HLen:=yH hn
 have hn2:n≤2:=by rw[←hn,hX.2.2.1];exact hx
 have hgx:=hX.lt
 have HK:=yH hX.1
 have hbk:=hX.1
 rw[hn] at HK hbk
 obtain⟨⟨c0,c1,c2,c3⟩,f0,f1,f2,f3⟩:=hbk.four
 have HS:=yH hs
 clear hr hs hX hbk hG hn
 go_enter Tryz.func98,Tryz.ntmps98
 go_wp2_with (fail)
 refine wp_region_any (by kernel_rfl) ?_
 change wpAny _ _ _ _ _ _ _ w.drew
 refine yM [0,1,2,4] (by kernel_rfl) (fun _ _ _ _ _=>id) ?_
 iterate 4
  refine yT rfl rfl (by rfl) ?_ ?_ ?_
  rotate_left
  ·intro w';go_simp;try with_reducible rfl
  try simp only[Act.put,yA,yB,yC]
 refine yZ ?_
 refine till_take (i:=3) (v:= ?_) (S:=fun w'=>w'.cell? ⟨gx,3,none⟩=some (.slice A n c)) (some 7) rfl rfl (by kernel_rfl) (by kernel_rfl) (by kernel_rfl) (fun _ _ _ h=>h) (Or.inl ⟨by rfl, ?_⟩) c3 ?_
 rotate_left 1
 ·intro w' hSw;go_simp;try with_reducible rfl
 try simp only[Act.put,yA,yB,yC]
 refine till_move (q:=6) (v:= ?_) (some 10) rfl rfl (by kernel_rfl) (by kernel_rfl) (by kernel_rfl) (by kernel_rfl) (fun _ _ _ h=>h) (Or.inl ⟨by rfl, ?_⟩) ?_
 rotate_left 1
 ·intro w';go_simp;try with_reducible rfl
 try simp only[Act.put,yA,yB,yC]
 refine till_two (j:=5) (k:=7) (by kernel_rfl) rfl rfl (fun K hK=> ?_) (fun K hK=> ?_)
 ·skip
  try simp only[yD,yE,yF]
  rw[if_pos (by rfl)]
  go_simp
  go_at_call 75
  (with_reducible refine(ex_yes E had (HS.out.rel HD.out) HR0.out).mono ?_)
  rintro e w2 ⟨vx,rfl,ex,s2,g2⟩
  have K2:=HK.out.drew.grown g2 (fun e=>by injection e;omega)
  have HM:=yH (mid_one HI.out HXX.out HD.out g2 s2 ex (.cells #[.int .i64 0,.int .i64 0,.string ⟨#[]⟩,.slice none 0 0] 52))
  have HZb:=yH (Bk.new w2 52 #[.int .i64 0,.int .i64 0,.string ⟨#[]⟩,.slice none 0 0])
  refine hK.out _ _ (K2.cell 3) ?_
  clear hK K
  try simp only[Act.put,yA,yB,yC]
  refine till_one (j:=7) (by kernel_rfl) rfl (fun K hK=> ?_)
  try simp only[yD,yE,yF]
  go_simp
  refine hK.out _ _ ((K2.alloc (.cells #[.int .i64 0,.int .i64 0,.string ⟨#[]⟩,.slice none 0 0] 52)).cell 3) ?_
  clear hK K
  try simp only[Act.put,yA,yB,yC]
  rw[HLen.out] at HM
  refine till_late (j:=8) (by kernel_rfl) rfl (by kernel_rfl) (fun K hK=> ?_)
  try simp only[yD,yE,yF]
  rw[if_pos (by rfl)]
  refine wp_append_lies _ _ _ _ rfl (gx+1) 52 i0 _ 4 56 Tryz.underlying50 hi hz0 hz1 hz2' rfl (by decide) (.slice A n c) n (cellsEs es) rfl HM.out.own ⟨w2.heap.size,0,none⟩ 1 1 (cellsE (0,0,[],none,0,0)) rfl rfl (World.news_of_block HZb.out) (cellsE_one _) (by decide) (by unfold maxLen;omega) (by omega) HM.out.base _ (by rfl) ?_
  intro g' cap w3 hown3 hgrow hat hlt3
  have HP:=yH (And.intro hown3 (And.intro hgrow hat))
  obtain⟨⟨y0,y1,y2,y3⟩,v0,v1,v2,v3⟩:=own_last hown3 HLen.out
  have K3:=HM.out.box hgrow
  obtain⟨⟨x0,x1,x2,x3⟩,u0,u1,u2,u3⟩:=K3.four
  have hgg: ¬g'=gx:=HM.out.apart hown3
  have hgg': ¬gx=g':=fun e=>hgg e.symm
  clear hown3 hgrow hat K3
  refine hK.out _ _ ?_
  clear hK K
  try simp only[Act.put,yA,yB,yC]
  refine till_rest (by kernel_rfl) ?_
  refine yM [9,11,12] (by kernel_rfl) (fun _ _ _ _ _=>id) ?_
  refine yT rfl rfl (by rfl) ?_ ?_ ?_
  rotate_left
  ·intro w';go_simp;rw[if_pos (show(n:Int)<(n:Int)+1 by omega)]
  try simp only[Act.put,yA,yB,yC]
  iterate 2
   refine yT rfl rfl (by rfl) ?_ ?_ ?_
   rotate_left
   ·intro w';go_simp;try with_reducible rfl
   try simp only[Act.put,yA,yB,yC]
  refine yZ ?_
  refine any_two (j:=10) (k:=13) (by kernel_rfl) rfl rfl (fun K hK=> ?_) (fun K hK=> ?_)
  ·skip
   try simp only[yD,yE,yF]
   go_simp
   refine hK _ _ ?_
   clear hK K
   try simp only[Act.put,yA,yB,yC]
   refine any_one (j:=13) (by kernel_rfl) rfl (fun K hK=> ?_)
   try simp only[yD,yE,yF]
   go_simp
   refine hK _ _ ?_
   clear hK K
   try simp only[Act.put,yA,yB,yC]
   refine any_done (by kernel_rfl) ?_ _
   go_end0
   refine PcPost.yes HR.out rfl ?_
   have HPu:=(HM.out.pushed HP.out HLen.out).1
   have HPv:=fun W h=>HM.out.push HP.out HLen.out hx W h
   unfold put4 at HPu
   exact HPv _ HPu
  ·skip
   try simp only[yD,yE,yF]
   go_simp
   refine hK _ _ ?_
   clear hK K
   try simp only[Act.put,yA,yB,yC]
   refine any_one (j:=10) (by kernel_rfl) rfl (fun K hK=> ?_)
   try simp only[yD,yE,yF]
   go_simp
   refine hK _ _ ?_
   clear hK K
   try simp only[Act.put,yA,yB,yC]
   refine any_done (by kernel_rfl) ?_ _
   go_end0
   refine PcPost.yes HR.out rfl ?_
   have HPu:=(HM.out.pushed HP.out HLen.out).2
   have HPv:=fun W h=>HM.out.push HP.out HLen.out hx W h
   unfold put4 at HPu
   exact HPv _ HPu
 ·skip
  try simp only[yD,yE,yF]
  go_simp
  refine hK.out _ _ ((HK.out.alloc (.cells #[.int .i64 0,.int .i64 0,.string ⟨#[]⟩,.slice none 0 0] 52)).drew.cell 3) ?_
  clear hK K
  try simp only[Act.put,yA,yB,yC]
  refine till_one (j:=5) (by kernel_rfl) rfl (fun K hK=> ?_)
  try simp only[yD,yE,yF]
  rw[if_pos (by rfl)]
  go_simp
  go_at_call 75
  (with_reducible refine(ex_yes E had (HS.out.rel HDA.out) HR0.out).mono ?_)
  rintro e w2 ⟨vx,rfl,ex,s2,g2⟩
  have K2:=(HK.out.alloc (.cells #[.int .i64 0,.int .i64 0,.string ⟨#[]⟩,.slice none 0 0] 52)).drew.grown g2 (fun e=>by injection e;omega)
  have HM:=yH (mid_two HI.out HXX.out HDA.out g2 s2 ex rfl)
  have HZb:=yH ((Bk.new w 52 #[.int .i64 0,.int .i64 0,.string ⟨#[]⟩,.slice none 0 0]).drew.grown g2 (fun e=>by injection e;have:=HS.out.lt;omega))
  refine hK.out _ _ (K2.cell 3) ?_
  clear hK K
  try simp only[Act.put,yA,yB,yC]
  rw[HLen.out] at HM
  refine till_late (j:=8) (by kernel_rfl) rfl (by kernel_rfl) (fun K hK=> ?_)
  try simp only[yD,yE,yF]
  rw[if_pos (by rfl)]
  refine wp_append_lies _ _ _ _ rfl (gx+1) 52 i0 _ 4 56 Tryz.underlying50 hi hz0 hz1 hz2' rfl (by decide) (.slice A n c) n (cellsEs es) rfl HM.out.own ⟨w.heap.size,0,none⟩ 1 1 (cellsE (0,0,[],none,0,0)) rfl rfl (World.news_of_block HZb.out) (cellsE_one _) (by decide) (by unfold maxLen;omega) (by omega) HM.out.base _ (by rfl) ?_
  intro g' cap w3 hown3 hgrow hat hlt3
  have HP:=yH (And.intro hown3 (And.intro hgrow hat))
  obtain⟨⟨y0,y1,y2,y3⟩,v0,v1,v2,v3⟩:=own_last hown3 HLen.out
  have K3:=HM.out.box hgrow
  obtain⟨⟨x0,x1,x2,x3⟩,u0,u1,u2,u3⟩:=K3.four
  have hgg: ¬g'=gx:=HM.out.apart hown3
  have hgg': ¬gx=g':=fun e=>hgg e.symm
  clear hown3 hgrow hat K3
  refine hK.out _ _ ?_
  clear hK K
  try simp only[Act.put,yA,yB,yC]
  refine till_rest (by kernel_rfl) ?_
  refine yM [9,11,12] (by kernel_rfl) (fun _ _ _ _ _=>id) ?_
  refine yT rfl rfl (by rfl) ?_ ?_ ?_
  rotate_left
  ·intro w';go_simp;rw[if_pos (show(n:Int)<(n:Int)+1 by omega)]
  try simp only[Act.put,yA,yB,yC]
  iterate 2
   refine yT rfl rfl (by rfl) ?_ ?_ ?_
   rotate_left
   ·intro w';go_simp;try with_reducible rfl
   try simp only[Act.put,yA,yB,yC]
  refine yZ ?_
  refine any_two (j:=10) (k:=13) (by kernel_rfl) rfl rfl (fun K hK=> ?_) (fun K hK=> ?_)
  ·skip
   try simp only[yD,yE,yF]
   go_simp
   refine hK _ _ ?_
   clear hK K
   try simp only[Act.put,yA,yB,yC]
   refine any_one (j:=13) (by kernel_rfl) rfl (fun K hK=> ?_)
   try simp only[yD,yE,yF]
   go_simp
   refine hK _ _ ?_
   clear hK K
   try simp only[Act.put,yA,yB,yC]
   refine any_done (by kernel_rfl) ?_ _
   go_end0
   refine PcPost.yes HR.out rfl ?_
   have HPu:=(HM.out.pushed HP.out HLen.out).1
   have HPv:=fun W h=>HM.out.push HP.out HLen.out hx W h
   unfold put4 at HPu
   exact HPv _ HPu
  ·skip
   try simp only[yD,yE,yF]
   go_simp
   refine hK _ _ ?_
   clear hK K
   try simp only[Act.put,yA,yB,yC]
   refine any_one (j:=10) (by kernel_rfl) rfl (fun K hK=> ?_)
   try simp only[yD,yE,yF]
   go_simp
   refine hK _ _ ?_
   clear hK K
   try simp only[Act.put,yA,yB,yC]
   refine any_done (by kernel_rfl) ?_ _
   go_end0
   refine PcPost.yes HR.out rfl ?_
   have HPu:=(HM.out.pushed HP.out HLen.out).2
   have HPv:=fun W h=>HM.out.push HP.out HLen.out hx W h
   unfold put4 at HPu
   exact HPv _ HPu
theorem parg_no(d:Nat)(E:ExprOk d)(V U:World)(g gx a:Nat)(had:a+d=32)(x:Ex)(ts:List Tok)(hx:x.l.length≤2)(e0:Int×Int)(hr:exprT d false ts= .error e0)(w:World)(h:InP V U w g gx a x ts):
  Calls Tryz.prog 98 #[.pointer (some ⟨g,0,none⟩),.pointer (some ⟨gx,0,none⟩)] w (PcPost V U g gx a (stepP (exprT d) .ar x ts)):=by
 obtain⟨i0,hi,hz0,hz1,hz2'⟩:=info_parts ex_info
 have HI:=yH h
 have HR:=yH (show stepP (exprT d) .ar x ts= .error e0 by unfold stepP;rw[hr])
 have HR0:=yH hr
 obtain⟨hs,hg,hU,hG,A,c,es,hX⟩:=h
 have HD:=yH (hs.V.1.self.drew)
 have HDA:=yH (hs.V.1.self.alloc (.cells #[.int .i64 0,.int .i64 0,.string ⟨#[]⟩,.slice none 0 0] 52)).drew
 have HXX:=yH hX
 obtain⟨n,hn⟩:∃n,es.length=n:=⟨_,rfl⟩
 have HLen:=yH hn
 have hn2:n≤2:=by rw[←hn,hX.2.2.1];exact hx
 have hgx:=hX.lt
 have HK:=yH hX.1
 have hbk:=hX.1
 rw[hn] at HK hbk
 obtain⟨⟨c0,c1,c2,c3⟩,f0,f1,f2,f3⟩:=hbk.four
 have HS:=yH hs
 clear hr hs hX hbk hG hn
 go_enter Tryz.func98,Tryz.ntmps98
 go_wp2_with (fail)
 refine wp_region_any (by kernel_rfl) ?_
 change wpAny _ _ _ _ _ _ _ w.drew
 refine yM [0,1,2,4] (by kernel_rfl) (fun _ _ _ _ _=>id) ?_
 iterate 4
  refine yT rfl rfl (by rfl) ?_ ?_ ?_
  rotate_left
  ·intro w';go_simp;try with_reducible rfl
  try simp only[Act.put,yA,yB,yC]
 refine yZ ?_
 refine till_take (i:=3) (v:= ?_) (S:=fun w'=>w'.cell? ⟨gx,3,none⟩=some (.slice A n c)) (some 7) rfl rfl (by kernel_rfl) (by kernel_rfl) (by kernel_rfl) (fun _ _ _ h=>h) (Or.inl ⟨by rfl, ?_⟩) c3 ?_
 rotate_left 1
 ·intro w' hSw;go_simp;try with_reducible rfl
 try simp only[Act.put,yA,yB,yC]
 refine till_move (q:=6) (v:= ?_) (some 10) rfl rfl (by kernel_rfl) (by kernel_rfl) (by kernel_rfl) (by kernel_rfl) (fun _ _ _ h=>h) (Or.inl ⟨by rfl, ?_⟩) ?_
 rotate_left 1
 ·intro w';go_simp;try with_reducible rfl
 try simp only[Act.put,yA,yB,yC]
 refine till_two (j:=5) (k:=7) (by kernel_rfl) rfl rfl (fun K hK=> ?_) (fun K hK=> ?_)
 ·skip
  try simp only[yD,yE,yF]
  rw[if_pos (by rfl)]
  go_simp
  go_at_call 75
  (with_reducible refine(ex_no E had (HS.out.rel HD.out) HR0.out).mono ?_)
  rintro e w2 ⟨rfl,g2⟩
  exact⟨rfl,PcPost.no HR.out rfl (grown_trans HI.out.2.2.2.1 (grown_trans (grown_rel (some g) HD.out) g2))⟩
 ·skip
  try simp only[yD,yE,yF]
  go_simp
  refine hK.out _ _ ((HK.out.alloc (.cells #[.int .i64 0,.int .i64 0,.string ⟨#[]⟩,.slice none 0 0] 52)).drew.cell 3) ?_
  clear hK K
  try simp only[Act.put,yA,yB,yC]
  refine till_one (j:=5) (by kernel_rfl) rfl (fun K hK=> ?_)
  try simp only[yD,yE,yF]
  rw[if_pos (by rfl)]
  go_simp
  go_at_call 75
  (with_reducible refine(ex_no E had (HS.out.rel HDA.out) HR0.out).mono ?_)
  rintro e w2 ⟨rfl,g2⟩
  exact⟨rfl,PcPost.no HR.out rfl (grown_trans HI.out.2.2.2.1 (grown_trans (grown_rel (some g) HDA.out) g2))⟩
theorem pwhen_yes(d:Nat)(E:ExprOk d)(V U:World)(g gx a:Nat)(had:a+d=32)(x:Ex)(ts:List Tok)(hx:x.l.length≤2)(y:Ex)(r:List Tok)(hr:exprT d true ts= .ok (y,r))(w:World)(h:InP V U w g gx a x ts):
  Calls Tryz.prog 101 #[.pointer (some ⟨g,0,none⟩),.pointer (some ⟨gx,0,none⟩)] w (PcPost V U g gx a (stepP (exprT d) .wh x ts)):=by
 obtain⟨i0,hi,hz0,hz1,hz2'⟩:=info_parts ex_info
 have HI:=yH h
 have HR:=yH (show stepP (exprT d) .wh x ts= .ok (x.push y,r) by unfold stepP;rw[hr])
 have HR0:=yH hr
 obtain⟨hs,hg,hU,hG,A,c,es,hX⟩:=h
 have HD:=yH (hs.V.1.self.drew)
 have HDA:=yH (hs.V.1.self.alloc (.cells #[.int .i64 0,.int .i64 0,.string ⟨#[]⟩,.slice none 0 0] 52)).drew
 have HXX:=yH hX
 obtain⟨n,hn⟩:∃n,es.length=n:=⟨_,rfl⟩
 have HLen:=yH hn
 have hn2:n≤2:=by rw[←hn,hX.2.2.1];exact hx
 have hgx:=hX.lt
 have HK:=yH hX.1
 have hbk:=hX.1
 rw[hn] at HK hbk
 obtain⟨⟨c0,c1,c2,c3⟩,f0,f1,f2,f3⟩:=hbk.four
 have HS:=yH hs
 clear hr hs hX hbk hG hn
 go_enter Tryz.func101,Tryz.ntmps101
 go_wp2_with (fail)
 refine wp_region_any (by kernel_rfl) ?_
 change wpAny _ _ _ _ _ _ _ w.drew
 refine yM [0,1,2,4] (by kernel_rfl) (fun _ _ _ _ _=>id) ?_
 iterate 4
  refine yT rfl rfl (by rfl) ?_ ?_ ?_
  rotate_left
  ·intro w';go_simp;try with_reducible rfl
  try simp only[Act.put,yA,yB,yC]
 refine yZ ?_
 refine till_take (i:=3) (v:= ?_) (S:=fun w'=>w'.cell? ⟨gx,3,none⟩=some (.slice A n c)) (some 7) rfl rfl (by kernel_rfl) (by kernel_rfl) (by kernel_rfl) (fun _ _ _ h=>h) (Or.inl ⟨by rfl, ?_⟩) c3 ?_
 rotate_left 1
 ·intro w' hSw;go_simp;try with_reducible rfl
 try simp only[Act.put,yA,yB,yC]
 refine till_move (q:=6) (v:= ?_) (some 10) rfl rfl (by kernel_rfl) (by kernel_rfl) (by kernel_rfl) (by kernel_rfl) (fun _ _ _ h=>h) (Or.inl ⟨by rfl, ?_⟩) ?_
 rotate_left 1
 ·intro w';go_simp;try with_reducible rfl
 try simp only[Act.put,yA,yB,yC]
 refine till_two (j:=5) (k:=7) (by kernel_rfl) rfl rfl (fun K hK=> ?_) (fun K hK=> ?_)
 ·skip
  try simp only[yD,yE,yF]
  rw[if_pos (by rfl)]
  go_simp
  go_at_call 136
  (with_reducible refine(cond_yes E had (HS.out.rel HD.out) HR0.out).mono ?_)
  rintro e w2 ⟨vx,rfl,ex,s2,g2⟩
  have K2:=HK.out.drew.grown g2 (fun e=>by injection e;omega)
  have HM:=yH (mid_one HI.out HXX.out HD.out g2 s2 ex (.cells #[.int .i64 0,.int .i64 0,.string ⟨#[]⟩,.slice none 0 0] 52))
  have HZb:=yH (Bk.new w2 52 #[.int .i64 0,.int .i64 0,.string ⟨#[]⟩,.slice none 0 0])
  refine hK.out _ _ (K2.cell 3) ?_
  clear hK K
  try simp only[Act.put,yA,yB,yC]
  refine till_one (j:=7) (by kernel_rfl) rfl (fun K hK=> ?_)
  try simp only[yD,yE,yF]
  go_simp
  refine hK.out _ _ ((K2.alloc (.cells #[.int .i64 0,.int .i64 0,.string ⟨#[]⟩,.slice none 0 0] 52)).cell 3) ?_
  clear hK K
  try simp only[Act.put,yA,yB,yC]
  rw[HLen.out] at HM
  refine till_late (j:=8) (by kernel_rfl) rfl (by kernel_rfl) (fun K hK=> ?_)
  try simp only[yD,yE,yF]
  rw[if_pos (by rfl)]
  refine wp_append_lies _ _ _ _ rfl (gx+1) 52 i0 _ 4 56 Tryz.underlying50 hi hz0 hz1 hz2' rfl (by decide) (.slice A n c) n (cellsEs es) rfl HM.out.own ⟨w2.heap.size,0,none⟩ 1 1 (cellsE (0,0,[],none,0,0)) rfl rfl (World.news_of_block HZb.out) (cellsE_one _) (by decide) (by unfold maxLen;omega) (by omega) HM.out.base _ (by rfl) ?_
  intro g' cap w3 hown3 hgrow hat hlt3
  have HP:=yH (And.intro hown3 (And.intro hgrow hat))
  obtain⟨⟨y0,y1,y2,y3⟩,v0,v1,v2,v3⟩:=own_last hown3 HLen.out
  have K3:=HM.out.box hgrow
  obtain⟨⟨x0,x1,x2,x3⟩,u0,u1,u2,u3⟩:=K3.four
  have hgg: ¬g'=gx:=HM.out.apart hown3
  have hgg': ¬gx=g':=fun e=>hgg e.symm
  clear hown3 hgrow hat K3
  refine hK.out _ _ ?_
  clear hK K
  try simp only[Act.put,yA,yB,yC]
  refine till_rest (by kernel_rfl) ?_
  refine yM [9,11,12] (by kernel_rfl) (fun _ _ _ _ _=>id) ?_
  refine yT rfl rfl (by rfl) ?_ ?_ ?_
  rotate_left
  ·intro w';go_simp;rw[if_pos (show(n:Int)<(n:Int)+1 by omega)]
  try simp only[Act.put,yA,yB,yC]
  iterate 2
   refine yT rfl rfl (by rfl) ?_ ?_ ?_
   rotate_left
   ·intro w';go_simp;try with_reducible rfl
   try simp only[Act.put,yA,yB,yC]
  refine yZ ?_
  refine any_two (j:=10) (k:=13) (by kernel_rfl) rfl rfl (fun K hK=> ?_) (fun K hK=> ?_)
  ·skip
   try simp only[yD,yE,yF]
   go_simp
   refine hK _ _ ?_
   clear hK K
   try simp only[Act.put,yA,yB,yC]
   refine any_one (j:=13) (by kernel_rfl) rfl (fun K hK=> ?_)
   try simp only[yD,yE,yF]
   go_simp
   refine hK _ _ ?_
   clear hK K
   try simp only[Act.put,yA,yB,yC]
   refine any_done (by kernel_rfl) ?_ _
   go_end0
   refine PcPost.yes HR.out rfl ?_
   have HPu:=(HM.out.pushed HP.out HLen.out).1
   have HPv:=fun W h=>HM.out.push HP.out HLen.out hx W h
   unfold put4 at HPu
   exact HPv _ HPu
  ·skip
   try simp only[yD,yE,yF]
   go_simp
   refine hK _ _ ?_
   clear hK K
   try simp only[Act.put,yA,yB,yC]
   refine any_one (j:=10) (by kernel_rfl) rfl (fun K hK=> ?_)
   try simp only[yD,yE,yF]
   go_simp
   refine hK _ _ ?_
   clear hK K
   try simp only[Act.put,yA,yB,yC]
   refine any_done (by kernel_rfl) ?_ _
   go_end0
   refine PcPost.yes HR.out rfl ?_
   have HPu:=(HM.out.pushed HP.out HLen.out).2
   have HPv:=fun W h=>HM.out.push HP.out HLen.out hx W h
   unfold put4 at HPu
   exact HPv _ HPu
 ·skip
  try simp only[yD,yE,yF]
  go_simp
  refine hK.out _ _ ((HK.out.alloc (.cells #[.int .i64 0,.int .i64 0,.string ⟨#[]⟩,.slice none 0 0] 52)).drew.cell 3) ?_
  clear hK K
  try simp only[Act.put,yA,yB,yC]
  refine till_one (j:=5) (by kernel_rfl) rfl (fun K hK=> ?_)
  try simp only[yD,yE,yF]
  rw[if_pos (by rfl)]
  go_simp
  go_at_call 136
  (with_reducible refine(cond_yes E had (HS.out.rel HDA.out) HR0.out).mono ?_)
  rintro e w2 ⟨vx,rfl,ex,s2,g2⟩
  have K2:=(HK.out.alloc (.cells #[.int .i64 0,.int .i64 0,.string ⟨#[]⟩,.slice none 0 0] 52)).drew.grown g2 (fun e=>by injection e;omega)
  have HM:=yH (mid_two HI.out HXX.out HDA.out g2 s2 ex rfl)
  have HZb:=yH ((Bk.new w 52 #[.int .i64 0,.int .i64 0,.string ⟨#[]⟩,.slice none 0 0]).drew.grown g2 (fun e=>by injection e;have:=HS.out.lt;omega))
  refine hK.out _ _ (K2.cell 3) ?_
  clear hK K
  try simp only[Act.put,yA,yB,yC]
  rw[HLen.out] at HM
  refine till_late (j:=8) (by kernel_rfl) rfl (by kernel_rfl) (fun K hK=> ?_)
  try simp only[yD,yE,yF]
  rw[if_pos (by rfl)]
  refine wp_append_lies _ _ _ _ rfl (gx+1) 52 i0 _ 4 56 Tryz.underlying50 hi hz0 hz1 hz2' rfl (by decide) (.slice A n c) n (cellsEs es) rfl HM.out.own ⟨w.heap.size,0,none⟩ 1 1 (cellsE (0,0,[],none,0,0)) rfl rfl (World.news_of_block HZb.out) (cellsE_one _) (by decide) (by unfold maxLen;omega) (by omega) HM.out.base _ (by rfl) ?_
  intro g' cap w3 hown3 hgrow hat hlt3
  have HP:=yH (And.intro hown3 (And.intro hgrow hat))
  obtain⟨⟨y0,y1,y2,y3⟩,v0,v1,v2,v3⟩:=own_last hown3 HLen.out
  have K3:=HM.out.box hgrow
  obtain⟨⟨x0,x1,x2,x3⟩,u0,u1,u2,u3⟩:=K3.four
  have hgg: ¬g'=gx:=HM.out.apart hown3
  have hgg': ¬gx=g':=fun e=>hgg e.symm
  clear hown3 hgrow hat K3
  refine hK.out _ _ ?_
  clear hK K
  try simp only[Act.put,yA,yB,yC]
  refine till_rest (by kernel_rfl) ?_
  refine yM [9,11,12] (by kernel_rfl) (fun _ _ _ _ _=>id) ?_
  refine yT rfl rfl (by rfl) ?_ ?_ ?_
  rotate_left
  ·intro w';go_simp;rw[if_pos (show(n:Int)<(n:Int)+1 by omega)]
  try simp only[Act.put,yA,yB,yC]
  iterate 2
   refine yT rfl rfl (by rfl) ?_ ?_ ?_
   rotate_left
   ·intro w';go_simp;try with_reducible rfl
   try simp only[Act.put,yA,yB,yC]
  refine yZ ?_
  refine any_two (j:=10) (k:=13) (by kernel_rfl) rfl rfl (fun K hK=> ?_) (fun K hK=> ?_)
  ·skip
   try simp only[yD,yE,yF]
   go_simp
   refine hK _ _ ?_
   clear hK K
   try simp only[Act.put,yA,yB,yC]
   refine any_one (j:=13) (by kernel_rfl) rfl (fun K hK=> ?_)
   try simp only[yD,yE,yF]
   go_simp
   refine hK _ _ ?_
   clear hK K
   try simp only[Act.put,yA,yB,yC]
   refine any_done (by kernel_rfl) ?_ _
   go_end0
   refine PcPost.yes HR.out rfl ?_
   have HPu:=(HM.out.pushed HP.out HLen.out).1
   have HPv:=fun W h=>HM.out.push HP.out HLen.out hx W h
   unfold put4 at HPu
   exact HPv _ HPu
  ·skip
   try simp only[yD,yE,yF]
   go_simp
   refine hK _ _ ?_
   clear hK K
   try simp only[Act.put,yA,yB,yC]
   refine any_one (j:=10) (by kernel_rfl) rfl (fun K hK=> ?_)
   try simp only[yD,yE,yF]
   go_simp
   refine hK _ _ ?_
   clear hK K
   try simp only[Act.put,yA,yB,yC]
   refine any_done (by kernel_rfl) ?_ _
   go_end0
   refine PcPost.yes HR.out rfl ?_
   have HPu:=(HM.out.pushed HP.out HLen.out).2
   have HPv:=fun W h=>HM.out.push HP.out HLen.out hx W h
   unfold put4 at HPu
   exact HPv _ HPu
theorem pwhen_no(d:Nat)(E:ExprOk d)(V U:World)(g gx a:Nat)(had:a+d=32)(x:Ex)(ts:List Tok)(hx:x.l.length≤2)(e0:Int×Int)(hr:exprT d true ts= .error e0)(w:World)(h:InP V U w g gx a x ts):
  Calls Tryz.prog 101 #[.pointer (some ⟨g,0,none⟩),.pointer (some ⟨gx,0,none⟩)] w (PcPost V U g gx a (stepP (exprT d) .wh x ts)):=by
 obtain⟨i0,hi,hz0,hz1,hz2'⟩:=info_parts ex_info
 have HI:=yH h
 have HR:=yH (show stepP (exprT d) .wh x ts= .error e0 by unfold stepP;rw[hr])
 have HR0:=yH hr
 obtain⟨hs,hg,hU,hG,A,c,es,hX⟩:=h
 have HD:=yH (hs.V.1.self.drew)
 have HDA:=yH (hs.V.1.self.alloc (.cells #[.int .i64 0,.int .i64 0,.string ⟨#[]⟩,.slice none 0 0] 52)).drew
 have HXX:=yH hX
 obtain⟨n,hn⟩:∃n,es.length=n:=⟨_,rfl⟩
 have HLen:=yH hn
 have hn2:n≤2:=by rw[←hn,hX.2.2.1];exact hx
 have hgx:=hX.lt
 have HK:=yH hX.1
 have hbk:=hX.1
 rw[hn] at HK hbk
 obtain⟨⟨c0,c1,c2,c3⟩,f0,f1,f2,f3⟩:=hbk.four
 have HS:=yH hs
 clear hr hs hX hbk hG hn
 go_enter Tryz.func101,Tryz.ntmps101
 go_wp2_with (fail)
 refine wp_region_any (by kernel_rfl) ?_
 change wpAny _ _ _ _ _ _ _ w.drew
 refine yM [0,1,2,4] (by kernel_rfl) (fun _ _ _ _ _=>id) ?_
 iterate 4
  refine yT rfl rfl (by rfl) ?_ ?_ ?_
  rotate_left
  ·intro w';go_simp;try with_reducible rfl
  try simp only[Act.put,yA,yB,yC]
 refine yZ ?_
 refine till_take (i:=3) (v:= ?_) (S:=fun w'=>w'.cell? ⟨gx,3,none⟩=some (.slice A n c)) (some 7) rfl rfl (by kernel_rfl) (by kernel_rfl) (by kernel_rfl) (fun _ _ _ h=>h) (Or.inl ⟨by rfl, ?_⟩) c3 ?_
 rotate_left 1
 ·intro w' hSw;go_simp;try with_reducible rfl
 try simp only[Act.put,yA,yB,yC]
 refine till_move (q:=6) (v:= ?_) (some 10) rfl rfl (by kernel_rfl) (by kernel_rfl) (by kernel_rfl) (by kernel_rfl) (fun _ _ _ h=>h) (Or.inl ⟨by rfl, ?_⟩) ?_
 rotate_left 1
 ·intro w';go_simp;try with_reducible rfl
 try simp only[Act.put,yA,yB,yC]
 refine till_two (j:=5) (k:=7) (by kernel_rfl) rfl rfl (fun K hK=> ?_) (fun K hK=> ?_)
 ·skip
  try simp only[yD,yE,yF]
  rw[if_pos (by rfl)]
  go_simp
  go_at_call 136
  (with_reducible refine(cond_no E had (HS.out.rel HD.out) HR0.out).mono ?_)
  rintro e w2 ⟨rfl,g2⟩
  exact⟨rfl,PcPost.no HR.out rfl (grown_trans HI.out.2.2.2.1 (grown_trans (grown_rel (some g) HD.out) g2))⟩
 ·skip
  try simp only[yD,yE,yF]
  go_simp
  refine hK.out _ _ ((HK.out.alloc (.cells #[.int .i64 0,.int .i64 0,.string ⟨#[]⟩,.slice none 0 0] 52)).drew.cell 3) ?_
  clear hK K
  try simp only[Act.put,yA,yB,yC]
  refine till_one (j:=5) (by kernel_rfl) rfl (fun K hK=> ?_)
  try simp only[yD,yE,yF]
  rw[if_pos (by rfl)]
  go_simp
  go_at_call 136
  (with_reducible refine(cond_no E had (HS.out.rel HDA.out) HR0.out).mono ?_)
  rintro e w2 ⟨rfl,g2⟩
  exact⟨rfl,PcPost.no HR.out rfl (grown_trans HI.out.2.2.2.1 (grown_trans (grown_rel (some g) HDA.out) g2))⟩
def fnOf:Pc→FuncId
 | .ar=>98
 | .wh=>101
 | .na=>97
 | .am=>99
 | .pa=>100
 | .co=>162
def pvOf(g:Nat)(p:Pc):Value:= .func (.func (fnOf p)) #[.pointer (some ⟨g,0,none⟩)] #[]
theorem piece_any(d:Nat)(E:ExprOk d)(V U:World)(g gx a:Nat)(had:a+d=32)(p:Pc)(x:Ex)(ts:List Tok)(hx:x.l.length≤2)(w:World)(h:InP V U w g gx a x ts):
  Calls Tryz.prog (fnOf p) #[.pointer (some ⟨g,0,none⟩),.pointer (some ⟨gx,0,none⟩)] w (PcPost V U g gx a (stepP (exprT d) p x ts)):=by
 cases p with
 |ar=>
  cases hr:exprT d false ts with
  |error e0=>exact parg_no d E V U g gx a had x ts hx e0 hr w h
  |ok q=>obtain⟨y,r⟩:=q;exact parg_yes d E V U g gx a had x ts hx y r hr w h
 |wh=>
  cases hr:exprT d true ts with
  |error e0=>exact pwhen_no d E V U g gx a had x ts hx e0 hr w h
  |ok q=>obtain⟨y,r⟩:=q;exact pwhen_yes d E V U g gx a had x ts hx y r hr w h
 |na=>exact pname_any V U g gx a x ts (exprT d) w h
 |am=>exact pamount_any V U g gx a x ts (exprT d) w h
 |pa=>exact ppart_any V U g gx a x ts (exprT d) w h
 |co=>exact pcount_any V U g gx a x ts (exprT d) w h
theorem piece_yes{d:Nat}(E:ExprOk d){V U:World}{g gx a:Nat}(had:a+d=32)(p:Pc){x y:Ex}{ts r:List Tok}(hx:x.l.length≤2)(hr:stepP (exprT d) p x ts= .ok (y,r)){w:World}(h:InP V U w g gx a x ts):
  Calls Tryz.prog (fnOf p) #[.pointer (some ⟨g,0,none⟩),.pointer (some ⟨gx,0,none⟩)] w fun e w'=>e= .returned (.tuple #[])∧InP V U w' g gx a y r:=by
 have:=piece_any d E V U g gx a had p x ts hx w h
 rw[hr] at this
 exact this
theorem piece_no{d:Nat}(E:ExprOk d){V U:World}{g gx a:Nat}(had:a+d=32)(p:Pc){x:Ex}{ts:List Tok}(hx:x.l.length≤2){e0:Int×Int}(hr:stepP (exprT d) p x ts= .error e0){w:World}(h:InP V U w g gx a x ts):
  Calls Tryz.prog (fnOf p) #[.pointer (some ⟨g,0,none⟩),.pointer (some ⟨gx,0,none⟩)] w fun e w'=>e=FLT e0.1 e0.2∧U.grownBy w' (some g):=by
 have:=piece_any d E V U g gx a had p x ts hx w h
 rw[hr] at this
 exact this
theorem step_len{f:Bool→List Tok→Told Ex}{p:Pc}{x y:Ex}{ts r:List Tok}(h:stepP f p x ts= .ok (y,r)):y.l.length≤x.l.length+1:=by
 unfold stepP at h
 cases p<;>simp only at h<;>split at h<;>(try cases h)<;>simp[Ex.push,Ex.num,Ex.name,Ex.l]
theorem XP.done{gx:Nat}{w:World}{x:Ex}{A:Option Addr}{c:Nat}{es:List El}(h:XP gx w x A c es)(W:World)(hs:w.heap.size≤W.heap.size)(hW:∀q,gx<q→q<w.heap.size→W.heap[q]?=w.heap[q]?)(S:Nat→Prop)(hS:∀q,gx<q→S q):ExAt S W (x.k,x.n,x.nm,A,es.length,c) x:=by
 obtain⟨h1,h2,h3,h4,h5,h6,h7,h8⟩:=h
 obtain⟨k,n,nm,l⟩:=x
 have h3:es.length=l.length:=h3
 have hrow:RowE (fun q=>gx<q) w A es:=ElsOwn.toks (base:=gx+1) (n:=es.length) (c:=c) (by unfold ElsOwn;exact h2) rfl (fun q hq=>by have:=(h2.lt q hq).1;omega)
 have hx:ExAt S W (k,n,nm,A,l.length,c) (.mk k n nm l):= .mk k n nm A c l es h5 h6 h7 h3 (hrow.mono hs fun q hq hl=>⟨hS q hq,hW q hq hl⟩) (fun i hi hi'=>(h4 i hi hi').mono hs fun q hq hl=>⟨hS q hq.1,hW q hq.1 hl⟩)
 rw[h3]
 exact hx
def btwP(j:Nat):UInt8:=if j=0 then 40 else 44
theorem btwP_or(j:Nat):btwP j=40∨btwP j=41∨btwP j=44:=by unfold btwP;split<;>simp
end Go.Proofs.YtfekhbeaphpelaaGreatDoor
