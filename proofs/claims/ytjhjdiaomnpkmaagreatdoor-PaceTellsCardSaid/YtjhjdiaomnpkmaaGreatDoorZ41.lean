/- The document's own Decide of layer 15. -/

import Derived.Test.YtjhjdiaomnpkmaaGreatDoorZ21
import Derived.Test.YtjhjdiaomnpkmaaGreatDoorZ22
import Derived.Test.YtjhjdiaomnpkmaaGreatDoorZ40
set_option maxRecDepth 100000
set_option maxHeartbeats 8000000
set_option linter.unusedVariables false
set_option linter.unusedSimpArgs false
namespace Go.Proofs.YtjhjdiaomnpkmaaGreatDoor
open Go.RowKit Go.Lib
theorem one15(x:Int):∀u∈clI15 x,u.oneCell'=true:=one_cell15 x
theorem IntsIn.row15{w:World}{A:Option Addr}{k:Nat}{L:List Int}(h:IntsIn w A k L):RowAt clI15 1 w A L:=by
 intro i hi
 obtain⟨g,off,rfl,hc⟩:=ints_row h (by omega)
 have h0:=hc i hi
 refine⟨g,off,rfl,blk_of_cell h0,fun j hj=> ?_⟩
 obtain rfl:j=0:=by omega
 rw[show off+i*1+0=off+i by omega]
 exact h0
theorem rdec_y(f c m o b la at_ sw tg now:Int)(t:List UInt8)(S:ByteArray)(hS:B t=S)(hf:CfFit (f,c,m,o,b,t))(L:List Int)(A:Option Addr)(n k:Nat)(hn:L.length=n)(ht:i64 tg)(hA:A=none→k=0)(hw:withinC (f,c,m,o,b,t) tg=true)(hri:rightP (la,at_,L,sw)=true)(d1:decide (now<0)=false)(d2:decide (1099511627776<now)=false)(re:Int)(hre:readyP (f,c,m,o,b,t) (la,at_,L,sw)=re)(d3:decide (now<re)=false)(hla:0≤la∧la≤1000000000000)(htb:1≤tg∧tg≤1000000000000)(vi nb:Bool)(hv:withinC (f,c,m,o,b,t) la=vi)(hnb:(decide (tg-la≤b)&&decide (la-tg≤b))=nb)(hno:(vi&&nb)=false)(hne:(tg==la)=false)(w:World)(hr:Rel w w)(hi:IntsIn w A k L):
  Calls Tryz.prog 16 #[.agg #[.int .i64 f,.int .i64 c,.int .i64 m,.int .i64 o,.int .i64 b,.string S],.agg #[.int .i64 la,.int .i64 at_,.slice A n k,.int .i64 sw],.int .i64 tg,.int .i64 now] w fun e w'=>∃A' n' k',e= .returned (.tuple #[.agg #[.int .i64 tg,.int .i64 now,.slice A' n' k',.int .i64 (if swingsP L tg then min (sw+1) 6 else 0)],.bool true])∧(lastR (L++[tg])).length=n'∧IntsIn w' A' k' (lastR (L++[tg]))∧Rel w w':=by
 have HCS:=yH (show vi=false∨(vi=true∧nb=false) from by revert hno;cases vi<;>cases nb<;>intro h<;>first|exact .inl rfl|exact .inr ⟨rfl,rfl⟩|cases h)
 obtain⟨l0,l1⟩:=hla
 obtain⟨g0,g1⟩:=htb
 have hz:∀z∈lastR (L++[tg]),i64 z:=fun z hz=>by
  rcases List.mem_append.1 (lastR_mem hz) with h|h
  ·exact hi.2.2.1 z h
  ·rw[List.mem_singleton] at h;subst h;exact ht
 have HZs:=yH hz
 have h3:n≤3:=by rw[←hn];exact(right_ring hri).2
 have hsw:=right_swing hri
 obtain⟨sw0,sw6⟩:=hsw
 replace sw0:0≤sw:=sw0
 replace sw6:sw≤6:=sw6
 have hkm:n≤k∧k≤maxLen:=⟨by rw[←hn];exact hi.1,hi.2.1⟩
 obtain⟨hk0,hk1⟩:=hkm
 unfold maxLen at hk1
 have HN:=yH hn
 have HAk:=yH hA
 have HSw:=yH (fun(w:World)(hr:Rel w w)(hi:IntsIn w A k L)=>rswings_any A n k L hn tg w hr hi)
 obtain⟨q,hq⟩:∃q,swingsP L tg=q:=⟨_,rfl⟩
 rw[hq] at HSw⊢
 obtain⟨sv,hsv⟩:∃s,(if q=true then min (sw+1) 6 else 0)=s:=⟨_,rfl⟩
 rw[hsv]
 have HSV:=yH hsv
 clear hsv
 obtain⟨i0,hi0,hz0,hz1,hz2⟩:=info_parts int_info15
 have hW0:=fun(w:World)(hr:Rel w w)=>rwithin_any (f,c,m,o,b,t) tg S hS hf w hr
 have hV0:=fun(w:World)(hr:Rel w w)=>rwithin_any (f,c,m,o,b,t) la S hS hf w hr
 have hG0:=fun(w:World)(hr:Rel w w)(hi:IntsIn w A k L)=>rright15_any la at_ sw L A n k hn w hr hi
 rw[hw] at hW0
 rw[hv] at hV0
 rw[hri] at hG0
 have HW:=yH hW0
 have HV:=yH hV0
 have HG:=yH hG0
 have hre2:(if la=0 then (0:Int) else laterF at_ (byP o (swK sw)))=re:=hre
 have hD0:∀(w:World),Rel w w→Calls Tryz.prog 13 #[.agg #[.int .i64 f,.int .i64 c,.int .i64 m,.int .i64 o,.int .i64 b,.string S],.agg #[.int .i64 la,.int .i64 at_,.slice A n k,.int .i64 sw]] w fun e w'=>e= .returned (.int .i64 re)∧Rel w w':=fun w hr=>by
  rw[←hre2];exact rready_any f c m o b S la at_ sw A n k w hr
 have HD:=yH hD0
 have HX0:=yH (((Bk.new w 24 #[.int .i64 f,.int .i64 c,.int .i64 m,.int .i64 o,.int .i64 b,.string S]).alloc (.cells #[.int .i64 la,.int .i64 at_,.slice A n k,.int .i64 sw] 27)).alloc (.cells #[.int .i64 0,.int .i64 0,.slice none 0 0,.int .i64 0] 27))
 have HY0:=yH ((Bk.new (w.alloc (.cells #[.int .i64 f,.int .i64 c,.int .i64 m,.int .i64 o,.int .i64 b,.string S] 24)) 27 #[.int .i64 la,.int .i64 at_,.slice A n k,.int .i64 sw]).alloc (.cells #[.int .i64 0,.int .i64 0,.slice none 0 0,.int .i64 0] 27))
 have HZ0:=yH (Bk.new ((w.alloc (.cells #[.int .i64 f,.int .i64 c,.int .i64 m,.int .i64 o,.int .i64 b,.string S] 24)).alloc (.cells #[.int .i64 la,.int .i64 at_,.slice A n k,.int .i64 sw] 27)) 27 #[.int .i64 0,.int .i64 0,.slice none 0 0,.int .i64 0])
 have HR0:=yH (((hr.alloc (.cells #[.int .i64 f,.int .i64 c,.int .i64 m,.int .i64 o,.int .i64 b,.string S] 24)).alloc (.cells #[.int .i64 la,.int .i64 at_,.slice A n k,.int .i64 sw] 27)).alloc (.cells #[.int .i64 0,.int .i64 0,.slice none 0 0,.int .i64 0] 27))
 have HI:=yH hi
 clear hr hi hS hf hW0 hV0 hG0 hw hv hri hn ht hD0 hre2 hre hz hq hA
 go_enter Tryz.func16,Tryz.ntmps16
 go_upto_region 1 with (fail)
 have HX:=HX0
 have HY:=HY0
 have HZ:=HZ0
 have R1:=HR0
 rw[World.size_alloc] at HY
 rw[World.size_alloc,World.size_alloc] at HZ
 obtain⟨W,hW⟩:∃W,((w.alloc (.cells #[.int .i64 f,.int .i64 c,.int .i64 m,.int .i64 o,.int .i64 b,.string S] 24)).alloc (.cells #[.int .i64 la,.int .i64 at_,.slice A n k,.int .i64 sw] 27)).alloc (.cells #[.int .i64 0,.int .i64 0,.slice none 0 0,.int .i64 0] 27)=W:=⟨_,rfl⟩
 rw[hW] at HX HY HZ R1
 obtain⟨gz,hgz⟩:∃g,w.heap.size+1+1=g:=⟨_,rfl⟩
 obtain⟨gy,hgy⟩:∃g,w.heap.size+1=g:=⟨_,rfl⟩
 rw[hgz] at HZ
 rw[hgy] at HY
 have sz:w.heap.size≤gz:=by omega
 have NYZ_:gy≠gz:=by omega
 try rw[hW]
 try rw[hgz]
 try rw[hgy]
 obtain⟨gx,hgx⟩:∃g,w.heap.size=g:=⟨_,rfl⟩
 rw[hgx] at HX
 try rw[hgx]
 clear hW hgz hgy hgx HX0 HY0 HZ0 HR0
 have NYZ0:=yH (show gy≠gz from NYZ_)
 obtain⟨⟨x0,x1,x2,x3,x4,x5⟩,_⟩:=six_of (HX.out.rel R1.out.self)
 obtain⟨⟨p0,p1,p2,p3⟩,_⟩:=four_of (HY.out.rel R1.out.self)
 obtain⟨⟨z0,z1,z2,z3⟩,⟨zf0,zf1,zf2,zf3⟩⟩:=four_of (HZ.out.rel R1.out.self)
 go_upto_region 5 with (first
  |(go_at_call 32;(with_reducible refine(HW.out _ R1.out.self).mono ?_);rintro e w2 ⟨rfl,h2⟩;have Q2:=yH h2;clear h2;obtain⟨⟨x0,x1,x2,x3,x4,x5⟩,_⟩:=six_of (HX.out.rel Q2.out);obtain⟨⟨p0,p1,p2,p3⟩,_⟩:=four_of (HY.out.rel Q2.out);obtain⟨⟨z0,z1,z2,z3⟩,⟨zf0,zf1,zf2,zf3⟩⟩:=four_of (HZ.out.rel Q2.out))
  |(go_at_call 11;(with_reducible refine(HG.out _ (R1.out.trans Q2.out).self (HI.out.rel (R1.out.trans Q2.out))).mono ?_);rintro e w3 ⟨rfl,h3⟩;have Q3:=yH (Q2.out.trans h3);clear h3;obtain⟨⟨x0,x1,x2,x3,x4,x5⟩,_⟩:=six_of (HX.out.rel Q3.out);obtain⟨⟨p0,p1,p2,p3⟩,_⟩:=four_of (HY.out.rel Q3.out);obtain⟨⟨z0,z1,z2,z3⟩,⟨zf0,zf1,zf2,zf3⟩⟩:=four_of (HZ.out.rel Q3.out))
  |(go_at_call 13;(with_reducible refine(HD.out _ (R1.out.trans Q3.out).self).mono ?_);rintro e w4 ⟨rfl,h4⟩;have Q4:=yH (Q3.out.trans h4);clear h4;obtain⟨⟨x0,x1,x2,x3,x4,x5⟩,_⟩:=six_of (HX.out.rel Q4.out);obtain⟨⟨p0,p1,p2,p3⟩,_⟩:=four_of (HY.out.rel Q4.out);obtain⟨⟨z0,z1,z2,z3⟩,⟨zf0,zf1,zf2,zf3⟩⟩:=four_of (HZ.out.rel Q4.out)))
 obtain⟨wA,hwA⟩:∃wA,w4=wA:=⟨_,rfl⟩
 have u1:IntKind.i64.wrap (tg-la)=tg-la:=by rw[IntKind.wrap_i64];omega
 have u2:IntKind.i64.wrap (la-tg)=la-tg:=by rw[IntKind.wrap_i64];omega
 clear hwA
 go_cut [12] (fun v wx=>v= .bool nb∧w4=wx)
 case first=>
  obtain⟨p1',hp1⟩:∃z,decide (tg-la≤b)=z:=⟨_,rfl⟩
  obtain⟨p2',hp2⟩:∃z,decide (la-tg≤b)=z:=⟨_,rfl⟩
  rw[hp1,hp2] at hnb
  cases p1'<;>cases p2'
  all_goals
   go_wp2_with (fail)
   go_meet
   exact⟨by rw[←hnb];rfl,rfl⟩
 obtain⟨rfl,rfl⟩:=hcut
 clear hnb
 go_upto_region 7 with (go_at_call 32;(with_reducible refine(HV.out _ (R1.out.trans Q4.out).self).mono ?_);rintro e w5 ⟨rfl,h5⟩;have Q5:=yH (Q4.out.trans h5);clear h5;obtain⟨⟨x0,x1,x2,x3,x4,x5⟩,_⟩:=six_of (HX.out.rel Q5.out);obtain⟨⟨p0,p1,p2,p3⟩,_⟩:=four_of (HY.out.rel Q5.out);obtain⟨⟨z0,z1,z2,z3⟩,⟨zf0,zf1,zf2,zf3⟩⟩:=four_of (HZ.out.rel Q5.out))
 clear hno
 go_cut [72] (fun v wx=>v= .bool false∧w5=wx)
 case first=>
  rcases HCS.out with e|⟨e,e'⟩
  ·subst e
   cases nb
   all_goals
    go_wp2_with (fail)
    go_meet
    exact⟨rfl,rfl⟩
  ·subst e
   subst e'
   go_wp2_with (fail)
   go_meet
   exact⟨rfl,rfl⟩
 obtain⟨rfl,rfl⟩:=hcut
 have R5:=yH (R1.out.trans Q5.out)
 have HYq:=yH (HY.out.rel Q5.out)
 have HZq:=yH (HZ.out.rel Q5.out)
 have NYZ:=yH (show gy≠gz from NYZ0.out)
 clear HX HY HZ R1 Q2 Q3 Q4 Q5 HW HG HD HV HCS x0 x1 x2 x3 x4 x5 p0 p1 p2 p3 z0 z1 z2 z3 zf0 zf1 zf2 zf3 NYZ0
 go_upto_region 10 with (fail)
 have AL:=yH (R5.out.self.alloc (.cells #[.int .i64 tg,.int .i64 now,.slice none 0 0,.int .i64 0] 27))
 have HQ:=yH (Bk.new w5 27 #[.int .i64 tg,.int .i64 now,.slice none 0 0,.int .i64 0])
 have HY6:=yH (HYq.out.rel AL.out)
 have HZ6:=yH (HZq.out.rel AL.out)
 have R6:=yH (R5.out.trans AL.out)
 have NQ:=yH (show gy≠w5.heap.size∧gz≠w5.heap.size from⟨Nat.ne_of_lt HYq.out.lt,Nat.ne_of_lt HZq.out.lt⟩)
 have SQ:=yH R5.out.size
 obtain⟨W6,hW6⟩:∃W,w5.alloc (.cells #[.int .i64 tg,.int .i64 now,.slice none 0 0,.int .i64 0] 27)=W:=⟨_,rfl⟩
 obtain⟨gq,hgq⟩:∃g,w5.heap.size=g:=⟨_,rfl⟩
 rw[hW6] at HQ HY6 HZ6 R6
 rw[hgq] at HQ NQ SQ
 try rw[hW6]
 try rw[hgq]
 clear hW6 hgq AL HYq HZq R5
 obtain⟨⟨p0,p1,p2,p3⟩,_⟩:=four_of HY6.out
 go_upto_if 80 with (go_at_call 33;(with_reducible refine(HSw.out W6 R6.out.self (HI.out.rel R6.out)).mono ?_);rintro e w7 ⟨rfl,h7⟩;have R7:=yH (R6.out.trans h7);have HY7:=yH (HY6.out.rel h7);have HZ7:=yH (HZ6.out.rel h7);have HQ7:=yH (HQ.out.rel h7);clear h7)
 clear p0 p1 p2 p3 HY6 HZ6 R6 HQ HSw
 go_cut [] (fun wx=>Rel w wx∧Bk wx gy 27 #[.int .i64 la,.int .i64 at_,.slice A n k,.int .i64 sw]∧Bk wx gz 27 #[.int .i64 0,.int .i64 0,.slice none 0 0,.int .i64 0]∧Bk wx gq 27 #[.int .i64 tg,.int .i64 now,.slice none 0 0,.int .i64 sv])
 case first=>
  obtain⟨⟨p0,p1,p2,p3⟩,_⟩:=four_of HY7.out
  obtain⟨⟨q0,q1,q2,q3⟩,⟨qf0,qf1,qf2,qf3⟩⟩:=four_of HQ7.out
  cases q with
  |true=>
   have hm1:min (sw+1) 6=sv:=HSV.out
   have hm2:(if sw+1<6 then sw+1 else 6)=sv:=by rw[←hm1];split<;>omega
   go_wp2_with (fail)
   go_meet
   exact⟨R7.out.setCell (p:=⟨gq,3,none⟩) SQ.out (.int .i64 sv),HY7.out.far (p:=⟨gq,3,none⟩) NQ.out.1 (.int .i64 sv),HZ7.out.far (p:=⟨gq,3,none⟩) NQ.out.2 (.int .i64 sv),HQ7.out.set_ 3 (.int .i64 sv)⟩
  |false=>
   obtain rfl:0=sv:=HSV.out
   go_wp2_with (fail)
   go_meet
   exact⟨R7.out,HY7.out,HZ7.out,HQ7.out⟩
 obtain⟨hR8,hY8,hZ8,hQ8⟩:=hcut
 have R8:=yH hR8
 have HY8:=yH hY8
 have HZ8:=yH hZ8
 have HQ8:=yH hQ8
 clear hR8 hY8 hZ8 hQ8 R7 HY7 HZ7 HQ7 HSV
 obtain⟨⟨p0,p1,p2,p3⟩,_⟩:=four_of HY8.out
 have RA:=yH ((HI.out.rel R8.out).row15)
 have hAn:A=none→k=0:=HAk.out
 go_upto_region 13 with (first
  |(at_builtin;(refine wpList_onto15 (k:=1) (cl:=clI15) 3 25 i0 (.int .i64 0) 8 Tryz.underlying25 hi0 hz0 hz1 hz2 rfl (by decide) (fun _=>rfl) one15 rfl (.const (.slice none 0 0)) (.tmp 87) rfl wc.heap.size (.slice none 0 0) [] rfl (RowOwn.nil _ _ _) A n k L HN.out rfl RA.out hAn (by rw[HN.out];simp;omega) (by rw[HN.out];simp;unfold maxLen;omega) (Nat.le_refl _) ?_);intro v1 w9 hown1 hgrow1;have OW9:=yH (show RowOwn 3 clI15 1 w9 wc.heap.size v1 L from hown1);have hs9:=hgrow1.size;have R9:=yH (R8.out.grown hgrow1 (fun k hk=>by cases hk));have HY9:=yH (HY8.out.grown hgrow1 (fun e=>by cases e));have HZ9:=yH (HZ8.out.grown hgrow1 (fun e=>by cases e));have HQ9:=yH (HQ8.out.grown hgrow1 (fun e=>by cases e));clear hown1 hgrow1)
  |(at_builtin;(refine wpList_append_lies _ rfl (.tmp 88) (.tmp 90) 25 rfl wc.heap.size 3 i0 (.int .i64 0) 1 8 Tryz.underlying25 hi0 hz0 hz1 hz2 rfl (by decide) v1 n (L.flatMap clI15) rfl (by have h:=OW9.out.row;rw[HN.out] at h;exact h.alloc _) ⟨w9.heap.size,0,none⟩ 1 1 [.int .i64 tg] rfl rfl (news15 w9 (.int .i64 tg) 3) (one_cell15 tg) (by decide) (by unfold maxLen;omega) (by omega) (by simp;omega) _ rfl ?_);intro g cap wB hownB hgrowB hatB hltB))
 have HLast:=yH (show lastR (L++[tg])=(L++[tg]).drop (n+1-3) by unfold lastR;rw[List.length_append,List.length_singleton,HN.out])
 have hcap:=own_le15 hownB
 obtain⟨_,cap2,hcs,hcm⟩:=own_slice hownB
 injection hcs with hA0 _ hcs
 subst hcs
 subst hA0
 unfold maxLen at hcm
 have HCM:=yH hcm
 have hoq:=own_ne OW9.out.row HQ9.out (show 3≠27 by decide)
 have hoz:=own_ne OW9.out.row HZ9.out (show 3≠27 by decide)
 have OB:=yH (RowOwn.more (cl:=clI15) HN.out hownB)
 have RB:=yH ((R9.out.alloc (.cells #[.int .i64 tg] 3)).grown hgrowB (fun k hk=>Nat.le_trans R8.out.size (OW9.out.row.lt k hk).1))
 have HZB:=yH ((HZ9.out.alloc (.cells #[.int .i64 tg] 3)).grown hgrowB hoz)
 have HQB:=yH ((HQ9.out.alloc (.cells #[.int .i64 tg] 3)).grown hgrowB hoq)
 clear hownB hgrowB hatB hoq hoz hAn p0 p1 p2 p3 R9 HY9 HZ9 HQ9 OW9 HY8 HZ8 HQ8 RA hs9
 obtain⟨⟨q0,q1,q2,q3⟩,⟨qf0,qf1,qf2,qf3⟩⟩:=four_of HQB.out
 have hgq2:=yH (own_ne OB.out.row HQB.out (show 3≠27 by decide))
 have hgz2:=yH (show some gz≠(Value.slice (some ⟨g,0,none⟩) (n+1) cap).ownBlock from own_ne OB.out.row HZB.out (show 3≠27 by decide))
 go_cut [] (fun wx=>∃(off n' k':Nat),Rel w wx∧Bk wx gz 27 #[.int .i64 0,.int .i64 0,.slice none 0 0,.int .i64 0]∧Bk wx gq 27 #[.int .i64 tg,.int .i64 now,.slice (some ⟨g,off,none⟩) n' k',.int .i64 sv]∧(lastR (L++[tg])).length=n'∧IntsIn wx (some ⟨g,off,none⟩) k' (lastR (L++[tg])))
 case first=>
  by_cases hn3:n=3
  ·subst hn3
   have hc1: ¬cap=1:=by omega
   go_wp2_with (fail)
   go_meet
   have hmx:(max (0:Int) 1).toNat=1:=by decide
   rw[hmx]
   refine⟨1,3,cap-1,RB.out.setCell (p:=⟨gq,2,none⟩) SQ.out _,HZB.out.far (p:=⟨gq,2,none⟩) NQ.out.2 _,HQB.out.set_ 2 _,by rw[HLast.out,List.length_drop,List.length_append,HN.out];rfl, ?_⟩
   have hat:=RowOwn.at (cl:=clI15) (k:=1) (fun _=>rfl) (own_set OB.out (p:=⟨gq,2,none⟩) hgq2.out (.slice (some ⟨g,1,none⟩) 3 (cap-1)):RowOwn 3 clI15 1 _ _ _ (L++[tg])) (by rw[List.length_append,HN.out];rfl)
   refine ints_at15 ?_ (by rw[HLast.out,List.length_drop,List.length_append,HN.out];show 3+1-(3+1-3)≤cap-1;omega) (by unfold maxLen;have:=HCM.out;omega) HZs.out
   rw[HLast.out]
   exact hat.from 1
  ·have hn2:n≤2:=by omega
   have hm:max (0:Int) ((n:Int)+1-3)=0:=by omega
   go_wp2_with (fail)
   go_meet
   refine⟨0,n+1,cap,RB.out.setCell (p:=⟨gq,2,none⟩) SQ.out _,HZB.out.far (p:=⟨gq,2,none⟩) NQ.out.2 _,HQB.out.set_ 2 _,by rw[HLast.out,List.length_drop,List.length_append,HN.out,List.length_singleton];omega, ?_⟩
   have hat:=RowOwn.at (cl:=clI15) (k:=1) (fun _=>rfl) (own_set OB.out (p:=⟨gq,2,none⟩) hgq2.out (.slice (some ⟨g,0,none⟩) (n+1) cap):RowOwn 3 clI15 1 _ _ _ (L++[tg])) (by rw[List.length_append,HN.out];rfl)
   refine ints_at15 ?_ (by rw[HLast.out,List.length_drop,List.length_append,HN.out,List.length_singleton];omega) (by unfold maxLen;have:=HCM.out;omega) HZs.out
   rw[HLast.out,show n+1-3=0 by omega,List.drop_zero]
   exact hat
 obtain⟨off,n',k',hRc,hZc,hQc,hlc,hic⟩:=hcut
 have RC:=yH hRc
 have HZC:=yH hZc
 have HQC:=yH hQc
 have HLC:=yH hlc
 have HIC:=yH hic
 have HGZ:=yH (show g≠gz from fun e=>hgz2.out (by rw[e];rfl))
 clear hRc hZc hQc hlc hic q0 q1 q2 q3 qf0 qf1 qf2 qf3 RB HZB HQB OB hgq2 hgz2 HLast HCM HZs
 obtain⟨⟨q0,q1,q2,q3⟩,_⟩:=four_of HQC.out
 obtain⟨⟨z0,z1,z2,z3⟩,⟨zf0,zf1,zf2,zf3⟩⟩:=four_of HZC.out
 go_wp2_with (fail)
 obtain⟨⟨y0,y1,y2,y3⟩,_⟩:=four_of (HZC.out.put4 (.int .i64 tg) (.int .i64 now) (.slice (some ⟨g,off,none⟩) n' k') (.int .i64 sv))
 have RW:=RC.out.put4 sz (.int .i64 tg) (.int .i64 now) (.slice (some ⟨g,off,none⟩) n' k') (.int .i64 sv)
 have HRg:=HIC.out.put4 (g:=gz) (fun a ha=>by injection ha with ha;subst ha;exact HGZ.out) (.int .i64 tg) (.int .i64 now) (.slice (some ⟨g,off,none⟩) n' k') (.int .i64 sv)
 refine bodyPost_ret (v:= .tuple #[.agg #[.int .i64 tg,.int .i64 now,.slice (some ⟨g,off,none⟩) n' k',.int .i64 sv],.bool true]) (by simp[results,Tryz.results16,go_sem,y0,y1,y2,y3]) rfl ⟨some ⟨g,off,none⟩,n',k',rfl,HLC.out,HRg,RW⟩
theorem right_last15{la at_ sw:Int}{L:List Int}(h:rightP (la,at_,L,sw)=true):0≤la∧la≤1000000000000:=by
 by_cases hl:1≤L.length
 ·rw[right_full hl,Bool.and_eq_true,Bool.and_eq_true] at h
  have he:=h.1.1
  unfold endsP at he
  rw[Bool.and_eq_true,Bool.and_eq_true] at he
  have:=ringOk_mem.1 he.2 la (List.mem_of_getLast? (of_decide_eq_true he.1.2))
  omega
 ·rw[right_empty (by omega)] at h
  have:=of_decide_eq_true h
  omega
theorem rdec15_any(c:Cf)(S:ByteArray)(p:Pa15)(A:Option Addr)(n k:Nat)(t now:Int)(w:World)(hS:B (txC c)=S)(hf:CfFit c)(ht:i64 t)(hr:Rel w w)(hp:PaAt w p A n k)(hA:A=none→k=0):
  Calls Tryz.prog 16 #[.agg #[.int .i64 (flC c),.int .i64 (ceC c),.int .i64 (mpC c),.int .i64 (coC c),.int .i64 (bdC c),.string S],.agg #[.int .i64 (laP p),.int .i64 (atP p),.slice A n k,.int .i64 (swP p)],.int .i64 t,.int .i64 now] w fun e w'=>∃(A':Option Addr)(n' k':Nat),e= .returned (.tuple #[.agg #[.int .i64 (laP (decP c p t now)),.int .i64 (atP (decP c p t now)),.slice A' n' k',.int .i64 (swP (decP c p t now))],.bool (goP c p t now)])∧(riP (decP c p t now)).length=n'∧IntsIn w' A' k' (riP (decP c p t now))∧Rel w w':=by
 obtain⟨f,ce,m,o,b,tx⟩:=c
 obtain⟨la,at_,L,sw⟩:=p
 obtain⟨hn,hfit,hi⟩:=hp
 have hno:goP (f,ce,m,o,b,tx) (la,at_,L,sw) t now=false→(Calls Tryz.prog 16 #[.agg #[.int .i64 f,.int .i64 ce,.int .i64 m,.int .i64 o,.int .i64 b,.string S],.agg #[.int .i64 la,.int .i64 at_,.slice A n k,.int .i64 sw],.int .i64 t,.int .i64 now] w fun e w'=>e= .returned (.tuple #[.agg #[.int .i64 la,.int .i64 at_,.slice A n k,.int .i64 sw],.bool false])∧Rel w w')→Calls Tryz.prog 16 #[.agg #[.int .i64 f,.int .i64 ce,.int .i64 m,.int .i64 o,.int .i64 b,.string S],.agg #[.int .i64 la,.int .i64 at_,.slice A n k,.int .i64 sw],.int .i64 t,.int .i64 now] w fun e w'=>∃(A':Option Addr)(n' k':Nat),e= .returned (.tuple #[.agg #[.int .i64 (laP (decP (f,ce,m,o,b,tx) (la,at_,L,sw) t now)),.int .i64 (atP (decP (f,ce,m,o,b,tx) (la,at_,L,sw) t now)),.slice A' n' k',.int .i64 (swP (decP (f,ce,m,o,b,tx) (la,at_,L,sw) t now))],.bool (goP (f,ce,m,o,b,tx) (la,at_,L,sw) t now)])∧(riP (decP (f,ce,m,o,b,tx) (la,at_,L,sw) t now)).length=n'∧IntsIn w' A' k' (riP (decP (f,ce,m,o,b,tx) (la,at_,L,sw) t now))∧Rel w w':=by
  intro hg hc
  have hd:decP (f,ce,m,o,b,tx) (la,at_,L,sw) t now=(la,at_,L,sw):=by unfold decP;rw[if_neg (by rw[hg];decide)]
  rw[hd,hg]
  refine hc.mono ?_
  rintro e w' ⟨he,h2⟩
  exact⟨A,n,k,he,hn,hi.rel h2,h2⟩
 have hgo:goP (f,ce,m,o,b,tx) (la,at_,L,sw) t now=(withinC (f,ce,m,o,b,tx) t&&rightP (la,at_,L,sw)&&decide (0≤now∧now≤1099511627776∧readyP (f,ce,m,o,b,tx) (la,at_,L,sw)≤now)&& !(withinC (f,ce,m,o,b,tx) la&&nearP (f,ce,m,o,b,tx) (la,at_,L,sw) t)&&decide (t≠la)):=rfl
 cases hw:withinC (f,ce,m,o,b,tx) t with
 |false=>
  exact hno (by rw[hgo,hw];rfl) (rdec_w f ce m o b la at_ sw t now tx S hS hf L A n k hn ht hw _ rfl w hr hi)
 |true=>
  cases hri:rightP (la,at_,L,sw) with
  |false=>exact hno (by rw[hgo,hw,hri];rfl) (rdec_r f ce m o b la at_ sw t now tx S hS hf L A n k hn ht hw hri w hr hi)
  |true=>
   have hgo2:goP (f,ce,m,o,b,tx) (la,at_,L,sw) t now=(decide (0≤now∧now≤1099511627776∧readyP (f,ce,m,o,b,tx) (la,at_,L,sw)≤now)&& !(withinC (f,ce,m,o,b,tx) la&&nearP (f,ce,m,o,b,tx) (la,at_,L,sw) t)&&decide (t≠la)):=by rw[hgo,hw,hri];rfl
   have hla:=right_last15 hri
   have htb:=within_bd hw
   by_cases h1:now<0
   ·exact hno (by rw[hgo2,decide_eq_false (show ¬(0≤now∧_) from fun e=>by omega)];rfl) (rdec_n f ce m o b la at_ sw t now tx S hS hf L A n k hn ht hw hri (decide_eq_true h1) w hr hi)
   ·by_cases h2:1099511627776<now
    ·exact hno (by rw[hgo2,decide_eq_false (show ¬(0≤now∧now≤1099511627776∧_) from fun e=>by omega)];rfl) (rdec_m f ce m o b la at_ sw t now tx S hS hf L A n k hn ht hw hri (decide_eq_false h1) (decide_eq_true h2) w hr hi)
    ·by_cases h3:now<readyP (f,ce,m,o,b,tx) (la,at_,L,sw)
     ·exact hno (by rw[hgo2,decide_eq_false (show ¬(0≤now∧now≤1099511627776∧readyP (f,ce,m,o,b,tx) (la,at_,L,sw)≤now) from fun e=>by omega)];rfl) (rdec_e f ce m o b la at_ sw t now tx S hS hf L A n k hn ht hw hri (decide_eq_false h1) (decide_eq_false h2) _ rfl (decide_eq_true h3) w hr hi)
     ·have hgo3:goP (f,ce,m,o,b,tx) (la,at_,L,sw) t now=(!(withinC (f,ce,m,o,b,tx) la&&nearP (f,ce,m,o,b,tx) (la,at_,L,sw) t)&&decide (t≠la)):=by rw[hgo2,decide_eq_true (show 0≤now∧now≤1099511627776∧readyP (f,ce,m,o,b,tx) (la,at_,L,sw)≤now from⟨by omega,by omega,by omega⟩)];rfl
      have hnb:nearP (f,ce,m,o,b,tx) (la,at_,L,sw) t=(decide (t-la≤b)&&decide (la-t≤b)):=by
       rw[Bool.eq_iff_iff,Bool.and_eq_true,decide_eq_true_eq,decide_eq_true_eq]
       unfold nearP
       rw[decide_eq_true_eq]
      have hb0:0≤b:=(nums_iff.1 (check_zero.1 htb.2.2.1).1).2.2.2.2.2.2.2.1
      cases hv:withinC (f,ce,m,o,b,tx) la with
      |true=>
       by_cases hq:t-la≤b∧la-t≤b
       ·exact hno (by rw[hgo3,hv,hnb,decide_eq_true hq.1,decide_eq_true hq.2];rfl) (rdec_f f ce m o b la at_ sw t now tx S hS hf L A n k hn ht hw hri (decide_eq_false h1) (decide_eq_false h2) _ rfl (decide_eq_false h3) hla ⟨htb.1,htb.2.1⟩ hv (decide_eq_true hq.1) (decide_eq_true hq.2) w hr hi)
       ·have hnf:(decide (t-la≤b)&&decide (la-t≤b))=false:=by
         cases e:(decide (t-la≤b)&&decide (la-t≤b)) with
         |false=>rfl
         |true=>
          rw[Bool.and_eq_true,decide_eq_true_eq,decide_eq_true_eq] at e
          exact absurd e hq
        have hne: ¬t=la:=fun e=>hq (by omega)
        have hg:goP (f,ce,m,o,b,tx) (la,at_,L,sw) t now=true:=by rw[hgo3,hv,hnb,hnf,decide_eq_true (show t≠la from hne)];rfl
        have hd:decP (f,ce,m,o,b,tx) (la,at_,L,sw) t now=nextP (la,at_,L,sw) t now:=by unfold decP;rw[if_pos hg]
        rw[hd,hg]
        exact rdec_y f ce m o b la at_ sw t now tx S hS hf L A n k hn ht hA hw hri (decide_eq_false h1) (decide_eq_false h2) _ rfl (decide_eq_false h3) hla ⟨htb.1,htb.2.1⟩ true false hv hnf rfl (by simpa using hne) w hr hi
      |false=>
       have hne: ¬t=la:=fun e=>by rw[e,hv] at hw;cases hw
       have hg:goP (f,ce,m,o,b,tx) (la,at_,L,sw) t now=true:=by rw[hgo3,hv,decide_eq_true (show t≠la from hne)];rfl
       have hd:decP (f,ce,m,o,b,tx) (la,at_,L,sw) t now=nextP (la,at_,L,sw) t now:=by unfold decP;rw[if_pos hg]
       rw[hd,hg]
       exact rdec_y f ce m o b la at_ sw t now tx S hS hf L A n k hn ht hA hw hri (decide_eq_false h1) (decide_eq_false h2) _ rfl (decide_eq_false h3) hla ⟨htb.1,htb.2.1⟩ false _ hv rfl rfl (by simpa using hne) w hr hi
end Go.Proofs.YtjhjdiaomnpkmaaGreatDoor
