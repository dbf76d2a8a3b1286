/- Reading the document's own parse. -/

import Derived.Test.YtjhjdiaomnpkmaaGreatDoorZ11
import Derived.Test.YtjhjdiaomnpkmaaGreatDoorZ36
set_option maxRecDepth 100000
set_option maxHeartbeats 8000000
set_option linter.unusedVariables false
set_option linter.unusedSimpArgs false
namespace Go.Proofs.YtjhjdiaomnpkmaaGreatDoor
open Go.RowKit Go.Lib
theorem lex_fine{l:List UInt8}{ts:List Tok}(h:lx 0 l= .ok ts)(hl:l.length≤2000):TokFine ts:=by
 obtain⟨us,rfl,hus,_,hlen⟩:=lx_out _ l (Nat.le_refl _) 0 ts h
 refine⟨fun t ht=> ?_,by simp;omega,us,_,rfl⟩
 rcases List.mem_append.1 ht with h1|h1
 ·have:=tok_short (hus t h1).1
  exact⟨this.2.1,this.2.2.1,this.1,this.2.2.2⟩
 ·simp only[List.mem_cons,List.not_mem_nil,or_false] at h1
  subst h1
  exact⟨show i64 5 from⟨by decide,by decide⟩,show i64 0 from⟨by decide,by decide⟩,Nat.zero_le _,fun h=>absurd h (show ¬(5:Int)=1 by decide)⟩
theorem rlex_no{s:ByteArray}(hs:s.size≤9223372036854775807)(cd pl:Int)(h:(2000<s.data.toList.length∧cd=60∧pl=2000)∨(s.data.toList.length≤2000∧∃k:Nat,lx 0 s.data.toList= .error k∧cd=61∧pl=k))(w0 w:World)(hr:Rel w0 w):
  Calls Tryz.prog 62 #[.string s] w fun e w'=>∃(A:Option Addr)(c:Nat),e= .returned (.tuple #[.slice A 0 c,.int .i64 cd,.int .i64 pl])∧Rel w0 w':=by
 refine(rlex_any s hs w0 w hr).mono ?_
 rintro e w' ⟨ts,A,c,err,place,rfl,h1,h2,ho⟩
 have hd:Out s.data.toList [] cd pl:=by
  rcases h with ⟨a,rfl,rfl⟩|⟨a,k,b,rfl,rfl⟩
  ·exact .inl ⟨a,rfl,rfl,rfl⟩
  ·exact .inr (.inr ⟨a,k,b,rfl,rfl,rfl⟩)
 obtain⟨rfl,rfl,rfl⟩:=ho.det hd
 exact⟨A,c,rfl,h1⟩
theorem rlex_yes{s:ByteArray}(hs:s.size≤9223372036854775807)(ts:List Tok)(h2:s.data.toList.length≤2000)(h:lx 0 s.data.toList= .ok ts)(w0 w:World)(hr:Rel w0 w):
  Calls Tryz.prog 62 #[.string s] w fun e w'=>∃(A:Option Addr)(c:Nat),e= .returned (.tuple #[.slice A ts.length c,.int .i64 0,.int .i64 0])∧Rel w0 w'∧ToksAt w' A ts:=by
 refine(rlex_any s hs w0 w hr).mono ?_
 rintro e w' ⟨ts',A,c,err,place,rfl,h1,h3,ho⟩
 obtain⟨rfl,rfl,rfl⟩:=ho.det (.inr (.inl ⟨h2,h,rfl,rfl⟩))
 exact⟨A,c,rfl,h1,h3⟩
def RParse(r:Except (Int×Int) Ex)(w0:World)(w:World)(e:Ending)(w':World):Prop:=Rel w0 w'∧∃(v:El)(cd pl:Int),e= .returned (.tuple #[EV v,.int .i64 cd,.int .i64 pl])∧
 match r with
 | .ok x=>cd=0∧pl=0∧ExAt (fun k=>w.heap.size≤k) w' v x
 | .error E=>cd=E.1∧pl=E.2∧v=(0,0,[],none,0,0)
theorem put4_rel{w0 w:World}(h:Rel w0 w){b:Nat}(hb:w0.heap.size≤b)(x y z u:Value):Rel w0 ((((w.setCell ⟨b,0,none⟩ x).setCell ⟨b,1,none⟩ y).setCell ⟨b,2,none⟩ z).setCell ⟨b,3,none⟩ u):=
 (((h.setCell hb x).setCell hb y).setCell hb z).setCell hb u
theorem rparse_no{s:ByteArray}(hs:s.size≤9223372036854775807)(cd pl:Int)(hcd:(cd==0)=false)(h:(2000<s.data.toList.length∧cd=60∧pl=2000)∨(s.data.toList.length≤2000∧∃k:Nat,lx 0 s.data.toList= .error k∧cd=61∧pl=k))(w0 w:World)(hr:Rel w0 w):
  Calls Tryz.prog 52 #[.string s] w (RParse (.error (cd,pl)) w0 w):=by
 have HL:=yH (fun W hW=>rlex_no hs cd pl h w0 W hW)
 have HR:=yH (hr.alloc (.cells #[.int .i64 0,.int .i64 0,.string ⟨#[]⟩,.slice none 0 0] 54))
 have HRs:=yH hr.size
 have HN:=yH (Bk.new w 54 #[.int .i64 0,.int .i64 0,.string ⟨#[]⟩,.slice none 0 0])
 have HLs:=yH (fun W hW=>rlex_no hs cd pl h (w.alloc (.cells #[.int .i64 0,.int .i64 0,.string ⟨#[]⟩,.slice none 0 0] 54)) W hW)
 clear h
 go_enter Tryz.func52,Tryz.ntmps52
 go_wp2_with (go_at_call 62;(with_reducible refine(HLs.out _ (Rel.self HR.out)).mono ?_);rintro e w1 ⟨A,c,rfl,h1⟩;obtain⟨⟨r0,r1,r2,r3⟩,q0,q1,q2,q3⟩:=(HN.out.rel h1).four)
 obtain⟨⟨y0,y1,y2,y3⟩,_⟩:=((HN.out.rel h1).put4 (.int .i64 0) (.int .i64 0) (.string ⟨#[]⟩) (.slice none 0 0)).four
 refine bodyPost_ret (v:= .tuple #[EV (0,0,[],none,0,0),.int .i64 cd,.int .i64 pl]) (by simp[results,Tryz.results52,go_sem,y0,y1,y2,y3];rfl) rfl ⟨put4_rel (HR.out.trans h1) HRs.out _ _ _ _,_,_,_,rfl,rfl,rfl,rfl⟩
theorem strat_R{ts ts2 ts3:List Tok}{x:Ex}{t:Tok}{e2 e3:Int}(hx:exprR 32 false (ts,0)=(x,(ts2,e2)))(ht:takeR 5 [] (ts2,e2)=(t,(ts3,e3))):(e3=0→stratT ts= .ok x)∧(e3≠0→stratT ts= .error (e3,atT ts3)):=by
 have hs:=expr_same 32 false ts
 rw[hx] at hs
 unfold stratT
 cases hr:exprT 32 false ts with
 |error E=>
  obtain⟨a,b,c⟩:=hs.er hr
  simp only at a c
  rw[takeR_bad (by rw[a];exact b)] at ht
  cases ht
  exact⟨fun h=>absurd (a.symm.trans h) b,fun _=>by rw[a,c]⟩
 |ok p=>
  obtain⟨x',ts'⟩:=p
  have e:=hs.ok_ hr
  cases e
  have h2:=take_same 5 [] ts2
  rw[ht] at h2
  cases hr2:takeT 5 [] ts2 with
  |error E=>
   obtain⟨a,b,c⟩:=h2.er hr2
   simp only at a c
   refine⟨fun h=>absurd (a.symm.trans h) b,fun _=> ?_⟩
   simp only
   rw[hr2,a,c]
  |ok p2=>
   obtain⟨t2,ts4⟩:=p2
   have e:=h2.ok_ hr2
   cases e
   refine⟨fun _=> ?_,fun h=>absurd rfl h⟩
   simp only
   rw[hr2]
theorem tok_ne{W:World}{b gT n:Nat}{a a' p q:Int}{s s':ByteArray}{x:Option Addr}{y z:Nat}(hB:Bk W b 54 #[.int .i64 a,.int .i64 a',.string s,.slice x y z])(h0:W.cell? ⟨gT,n,none⟩=some (.int .i64 p))(h1:W.cell? ⟨gT,n+1,none⟩=some (.string s'))(h2:W.cell? ⟨gT,n+2,none⟩=some (.int .i64 q)):gT≠b:=by
 rintro rfl
 rw[hB.cell] at h0 h1 h2
 match n,h0,h1,h2 with
 |0,_,h1,_=>simp at h1
 |1,_,_,h2=>simp at h2
 |2,h0,_,_=>simp at h0
 |n+3,_,h1,_=>simp at h1
theorem rparse_yes(E:∀V A c all,ExprS V A c all 32){s:ByteArray}(hs:s.size≤9223372036854775807)(ts:List Tok)(h2:s.data.toList.length≤2000)(h:lx 0 s.data.toList= .ok ts)(w0 w:World)(hr:Rel w0 w):
  Calls Tryz.prog 52 #[.string s] w (RParse (stratT ts) w0 w):=by
 have HR:=yH (hr.alloc (.cells #[.int .i64 0,.int .i64 0,.string ⟨#[]⟩,.slice none 0 0] 54))
 have hzw:=World.size_alloc w (.cells #[.int .i64 0,.int .i64 0,.string ⟨#[]⟩,.slice none 0 0] 54)
 have HRs:=yH hr.size
 have HN:=yH (Bk.new w 54 #[.int .i64 0,.int .i64 0,.string ⟨#[]⟩,.slice none 0 0])
 have HL:=yH (fun W hW=>rlex_yes hs ts h2 h (w.alloc (.cells #[.int .i64 0,.int .i64 0,.string ⟨#[]⟩,.slice none 0 0] 54)) W hW)
 have HFi:=yH (lex_fine h h2)
 obtain⟨⟨x,ts2,e2⟩,hx⟩:∃r,exprR 32 false (ts,0)=r:=⟨_,rfl⟩
 obtain⟨⟨t,ts3,e3⟩,ht⟩:∃r,takeR 5 [] (ts2,e2)=r:=⟨_,rfl⟩
 have HSR:=yH (strat_R hx ht)
 have HE:Hid (∀(V:World)(A:Option Addr)(c g:Nat)(W:World),StR V A c ts W g (ts,0)→Calls Tryz.prog 63 #[.pointer (some ⟨g,0,none⟩),.int .i64 0,.bool false] W fun e w'=>∃v:El,e= .returned (EV v)∧ExAt (fun k=>W.heap.size≤k) w' v x∧StR V A c ts w' g (ts2,e2)∧W.grownBy w' (some g)):=yH (fun V A c g W hW=>by
  have:=E V A c ts false (ts,0) g W hW
  rw[hx] at this
  exact this)
 have HTk:Hid (∀(V:World)(A:Option Addr)(c g:Nat)(W:World),StR V A c ts W g (ts2,e2)→Calls Tryz.prog 64 #[.pointer (some ⟨g,0,none⟩),.int .i64 5,.string ⟨#[]⟩] W fun e w'=>e= .returned (.agg #[.int .i64 t.1,.string (B t.2.1),.int .i64 t.2.2.1,.int .i64 t.2.2.2])∧StR V A c ts w' g (ts3,e3)∧W.grownBy w' (some g)):=yH (fun V A c g W hW=>by
  have:=rtake_any V A c ts g (ts2,e2) 5 [] ⟨#[]⟩ (yH rfl) W hW
  rw[ht] at this
  exact this)
 clear hx ht h E
 by_cases he:e3=0
 ·subst he
  rw[HSR.out.1 rfl]
  go_enter Tryz.func52,Tryz.ntmps52
  go_wp2_with (first
   |(go_at_call 62;(with_reducible refine(HL.out _ (Rel.self HR.out)).mono ?_);rintro e w1 ⟨A,c,rfl,h1,hT⟩;have hz1:=h1.size;have HT:=yH hT;have H1:=yH h1;have HN1:=yH (HN.out.rel h1);have HSt:=yH (show StR w1 A c ts (w1.alloc (.cells #[.slice A ts.length c,.int .i64 0,.int .i64 0] 85)) w1.heap.size (ts,0) from⟨0,(Rel.right h1).alloc _,Nat.le_refl _,hT,HFi.out,Bk.new w1 85 #[.slice A ts.length c,.int .i64 0,.int .i64 0],rfl,by have:=HFi.out.2.2;obtain⟨us,p,e⟩:=this;rw[e];simp⟩))
   |(go_at_call 63;(with_reducible refine(HE.out _ _ _ _ _ HSt.out).mono ?_);rintro e w3 ⟨v,rfl,ex,s3,g3⟩;have hz3:=g3.size;have hzs:=World.size_alloc w1 (.cells #[.slice A ts.length c,.int .i64 0,.int .i64 0] 85);have EX:=yH ex;have G3:=yH g3;have HN3:=yH (((HN1.out.alloc (.cells #[.slice A ts.length c,.int .i64 0,.int .i64 0] 85)).grown g3 (fun e=>by injection e;omega)).alloc (.cells #[.int .i64 v.1,.int .i64 v.2.1,.string (B v.2.2.1),.slice v.2.2.2.1 v.2.2.2.2.1 v.2.2.2.2.2] 54));have s4:=s3.rel ((show Rel w3 w3 from by obtain⟨_,a,_⟩:=s3;exact(Rel.right a)).alloc (.cells #[.int .i64 v.1,.int .i64 v.2.1,.string (B v.2.2.1),.slice v.2.2.2.1 v.2.2.2.2.1 v.2.2.2.2.2] 54));have S4:=yH s4;have HX:=yH (Bk.new w3 54 #[.int .i64 v.1,.int .i64 v.2.1,.string (B v.2.2.1),.slice v.2.2.2.1 v.2.2.2.2.1 v.2.2.2.2.2]))
   |(go_at_call 64;(with_reducible refine(HTk.out _ _ _ _ _ S4.out).mono ?_);rintro e w5 ⟨rfl,s5,g5⟩;have hz5:=g5.size;have hzx:=World.size_alloc w3 (.cells #[.int .i64 v.1,.int .i64 v.2.1,.string (B v.2.2.1),.slice v.2.2.2.1 v.2.2.2.2.1 v.2.2.2.2.2] 54);have S5:=yH s5;have G5:=yH g5;have e5:=s5.err;have HN5:=yH (HN3.out.grown g5 (fun e=>by injection e;omega));obtain⟨⟨r0,r1,r2,r3⟩,q0,q1,q2,q3⟩:=HN5.out.four;obtain⟨⟨x0,x1,x2,x3⟩,u0,u1,u2,u3⟩:=(HX.out.grown g5 (fun e=>by injection e;omega)).four))
  obtain⟨⟨y0,y1,y2,y3⟩,_⟩:=(HN5.out.put4 (.int .i64 v.1) (.int .i64 v.2.1) (.string (B v.2.2.1)) (.slice v.2.2.2.1 v.2.2.2.2.1 v.2.2.2.2.2)).four
  have gp:=put4_grown w5 w.heap.size (.int .i64 v.1) (.int .i64 v.2.1) (.string (B v.2.2.1)) (.slice v.2.2.2.1 v.2.2.2.2.1 v.2.2.2.2.2)
  have h0w:=HRs.out
  have R3:=((HR.out.trans H1.out).alloc (.cells #[.slice A ts.length c,.int .i64 0,.int .i64 0] 85)).grown G3.out (fun k e=>by cases e;omega)
  have R5:=(R3.alloc (.cells #[.int .i64 v.1,.int .i64 v.2.1,.string (B v.2.2.1),.slice v.2.2.2.1 v.2.2.2.2.1 v.2.2.2.2.2] 54)).grown G5.out (fun k e=>by cases e;omega)
  have ga:=grown_rel none (R3.self.alloc (.cells #[.int .i64 v.1,.int .i64 v.2.1,.string (B v.2.2.1),.slice v.2.2.2.1 v.2.2.2.2.1 v.2.2.2.2.2] 54))
  refine bodyPost_ret (v:= .tuple #[EV v,.int .i64 0,.int .i64 0]) (by simp[results,Tryz.results52,go_sem,y0,y1,y2,y3]) rfl ⟨put4_rel R5 HRs.out _ _ _ _,_,_,_,rfl,rfl,rfl, ?_⟩
  exact((EX.out.grown (S':=fun k=>w1.heap.size<k) ga (fun k hk=>⟨by omega,fun e=>by cases e⟩)).grown (S':=fun k=>w1.heap.size<k) G5.out (fun k hk=>⟨hk,fun e=>by injection e;omega⟩)).grown gp (fun k hk=>⟨by omega,fun e=>by injection e;omega⟩)
 ·have he':(e3==0)=false:=by simpa using he
  rw[HSR.out.2 he]
  obtain⟨pl,hpl⟩:∃pl,atT ts3=pl:=⟨_,rfl⟩
  rw[hpl]
  have HPl:=yH hpl
  clear he hpl
  go_enter Tryz.func52,Tryz.ntmps52
  go_wp2_with (first
   |(go_at_call 62;(with_reducible refine(HL.out _ (Rel.self HR.out)).mono ?_);rintro e w1 ⟨A,c,rfl,h1,hT⟩;have hz1:=h1.size;have HT:=yH hT;have H1:=yH h1;have HN1:=yH (HN.out.rel h1);have HSt:=yH (show StR w1 A c ts (w1.alloc (.cells #[.slice A ts.length c,.int .i64 0,.int .i64 0] 85)) w1.heap.size (ts,0) from⟨0,(Rel.right h1).alloc _,Nat.le_refl _,hT,HFi.out,Bk.new w1 85 #[.slice A ts.length c,.int .i64 0,.int .i64 0],rfl,by have:=HFi.out.2.2;obtain⟨us,p,e⟩:=this;rw[e];simp⟩))
   |(go_at_call 63;(with_reducible refine(HE.out _ _ _ _ _ HSt.out).mono ?_);rintro e w3 ⟨v,rfl,ex,s3,g3⟩;have hz3:=g3.size;have hzs:=World.size_alloc w1 (.cells #[.slice A ts.length c,.int .i64 0,.int .i64 0] 85);have EX:=yH ex;have G3:=yH g3;have HN3:=yH (((HN1.out.alloc (.cells #[.slice A ts.length c,.int .i64 0,.int .i64 0] 85)).grown g3 (fun e=>by injection e;omega)).alloc (.cells #[.int .i64 v.1,.int .i64 v.2.1,.string (B v.2.2.1),.slice v.2.2.2.1 v.2.2.2.2.1 v.2.2.2.2.2] 54));have s4:=s3.rel ((show Rel w3 w3 from by obtain⟨_,a,_⟩:=s3;exact(Rel.right a)).alloc (.cells #[.int .i64 v.1,.int .i64 v.2.1,.string (B v.2.2.1),.slice v.2.2.2.1 v.2.2.2.2.1 v.2.2.2.2.2] 54));have S4:=yH s4;have HX:=yH (Bk.new w3 54 #[.int .i64 v.1,.int .i64 v.2.1,.string (B v.2.2.1),.slice v.2.2.2.1 v.2.2.2.2.1 v.2.2.2.2.2]))
   |(go_at_call 64;(with_reducible refine(HTk.out _ _ _ _ _ S4.out).mono ?_);rintro e w5 ⟨rfl,s5,g5⟩;have hz5:=g5.size;have hzx:=World.size_alloc w3 (.cells #[.int .i64 v.1,.int .i64 v.2.1,.string (B v.2.2.1),.slice v.2.2.2.1 v.2.2.2.2.1 v.2.2.2.2.2] 54);have S5:=yH s5;have G5:=yH g5;have e5:=s5.err;have HN5:=yH (HN3.out.grown g5 (fun e=>by injection e;omega));obtain⟨⟨r0,r1,r2,r3⟩,q0,q1,q2,q3⟩:=HN5.out.four;obtain⟨⟨x0,x1,x2,x3⟩,u0,u1,u2,u3⟩:=(HX.out.grown g5 (fun e=>by injection e;omega)).four))
  have h0w:=HRs.out
  have R3:=((HR.out.trans H1.out).alloc (.cells #[.slice A ts.length c,.int .i64 0,.int .i64 0] 85)).grown G3.out (fun k e=>by cases e;omega)
  have HR5:=yH ((R3.alloc (.cells #[.int .i64 v.1,.int .i64 v.2.1,.string (B v.2.2.1),.slice v.2.2.2.1 v.2.2.2.2.1 v.2.2.2.2.2] 54)).grown G5.out (fun k e=>by cases e;omega))
  clear R3
  obtain⟨j3,k1,k2,k3,k4,k5,k6,k7⟩:=S5.out
  have HB3:=yH k5
  obtain⟨gT,off,rfl,hb,a0,a1,a2,a3⟩:=(k3.rel k1) j3 k7
  have hj3:ts[j3].2.2.2=pl:=by
   rw[←HPl.out];unfold atT;simp only at k6;rw[k6,hd_drop k7]
  rw[hj3] at a3
  have hne:=tok_ne HN5.out a0 a1 a2
  have HTc:=yH a3
  have HG5d:=yH (grown_rel (some w.heap.size) HR5.out.self.drew)
  have hz0:gT<w5.heap.size:=by have:=k1.size;omega
  have HTp:=yH (show((((w5.drew.setCell ⟨w.heap.size,0,none⟩ (.int .i64 0)).setCell ⟨w.heap.size,1,none⟩ (.int .i64 0)).setCell ⟨w.heap.size,2,none⟩ (.string ⟨#[]⟩)).setCell ⟨w.heap.size,3,none⟩ (.slice none 0 0)).cell? ⟨gT,off+j3*4+3,none⟩=some (.int .i64 pl) from
   (World.cell?_of_block ((put4_grown w5.drew w.heap.size _ _ _ _).block gT hz0 (fun e=>hne (by injection e)))).trans a3)
  clear k1 k2 k3 k4 k5 k6
  refine wp_region_held_drew (S:=(fun w'=>w5.grownBy w' (some w.heap.size)∧w'.cell? ⟨gT,off+j3*4+3,none⟩=some (.int .i64 pl))) (by kernel_rfl) ⟨HG5d.out,HTc.out⟩ (fun hH=> ?_)
  refine yL [0,1,2,3,4,5,6,7,8,9,10,11,12] (by kernel_rfl) hH (fun _ _ _ _ _=>id) ?_
  iterate 13
   refine yS rfl rfl (by rfl) ?_ ?_ ?_
   rotate_left
   ·intro w' h;obtain⟨h,ht⟩:=h;obtain⟨⟨x0,x1,x2⟩,_⟩:=(HB3.out.grown h (fun e=>by injection e;omega)).three;go_simp;try with_reducible rfl
   try simp only[Act.put,yA,yB,yC]
  refine yZ ?_
  refine held_one (j:=13) (by kernel_rfl) rfl (fun K hK=> ?_)
  try simp only[yD,yE,yF]
  rw[if_pos (by rfl)]
  go_simp
  refine hK.out _ _ ⟨grown_trans hH.1 (put4_grown _ _ _ _ _ _),HTp.out⟩ (fun hH=> ?_)
  clear hK K
  try simp only[Act.put,yA,yB,yC]
  refine yL [14,15] (by kernel_rfl) hH (fun _ _ _ _ _=>id) ?_
  iterate 2
   refine yS rfl rfl (by rfl) ?_ ?_ ?_
   rotate_left
   ·intro w' h;obtain⟨h,ht⟩:=h;obtain⟨⟨x0,x1,x2⟩,_⟩:=(HB3.out.grown h (fun e=>by injection e;omega)).three;go_simp;try with_reducible rfl
   try simp only[Act.put,yA,yB,yC]
  refine yZ ?_
  refine wpAnyH_done (by kernel_rfl) ?_ _
  go_wp2_with (fail)
  obtain⟨⟨y0,y1,y2,y3⟩,_⟩:=(HN5.out.put4 (.int .i64 0) (.int .i64 0) (.string ⟨#[]⟩) (.slice none 0 0)).four
  refine bodyPost_ret (v:= .tuple #[EV (0,0,[],none,0,0),.int .i64 e3,.int .i64 pl]) (by simp[results,Tryz.results52,go_sem,y0,y1,y2,y3];rfl) rfl ⟨(put4_rel HR5.out HRs.out _ _ _ _).drew,_,_,_,rfl,rfl,rfl,rfl⟩
theorem kindT_bd(c:Bool)(t:Tok):0≤kindT c t∧kindT c t≤12:=by
 unfold kindT
 split
 ·exact⟨by decide,by decide⟩
 ·split
  ·unfold kindW
   cases hf:([1,2,3,4,5,6,7,8,9,10,11,12]:List Int).find? fun k=>wordK k==t.2.1&&isCond k==c with
   |none=>exact⟨by decide,by decide⟩
   |some k=>
    have hm:=List.mem_of_find?_eq_some hf
    have:=(by decide:∀k∈([1,2,3,4,5,6,7,8,9,10,11,12]:List Int),0≤k∧k≤12) k hm
    simpa using this
  ·exact⟨by decide,by decide⟩
theorem rexpr_all(V:World)(A:Option Addr)(c:Nat)(all:List Tok):∀d,d≤32→ExprS V A c all d
 |0,_=>rexpr_zero V A c all
 |d+1,hd=>fun cb s g w h=>by
  have E:=rexpr_all V A c all d (by omega)
  obtain⟨ts,e⟩:=s
  by_cases h0:e≠0∨kindT cb (hdT ts)=0
  ·exact rexpr_stop V A c all d hd cb (ts,e) g w h h0
  ·have he:e=0:=by
    by_cases he:e=0
    ·exact he
    ·exact absurd (.inl he) h0
   subst he
   have hk:kindT cb (hdT ts)≠0:=fun hk=>h0 (.inr hk)
   have hb:=kindT_bd cb (hdT ts)
   by_cases h4:kindT cb (hdT ts)=4
   ·exact rexpr_money V A c all d hd cb ts g w h h4
   ·by_cases h12:kindT cb (hdT ts)=1∨kindT cb (hdT ts)=2
    ·exact rexpr_leaf V A c all d hd cb ts g w h h12
    ·exact rexpr_call V A c all d hd E cb ts g w h _ rfl (by omega) hb.2 h4
theorem rparse8_any(s:ByteArray)(hs:s.size≤9223372036854775807)(w0 w:World)(hr:Rel w0 w):
  Calls Tryz.prog 52 #[.string s] w (RParse (parseS s.data.toList) w0 w):=by
 unfold parseS
 split
 ·rename_i h
  exact rparse_no hs 60 2000 rfl (.inl ⟨h,rfl,rfl⟩) w0 w hr
 ·rename_i h
  have h2:s.data.toList.length≤2000:=by omega
  cases hx:lx 0 s.data.toList with
  |error k=>exact rparse_no hs 61 (k:Int) rfl (.inr ⟨h2,k,hx,rfl,rfl⟩) w0 w hr
  |ok ts=>exact rparse_yes (fun V A c all=>rexpr_all V A c all 32 (by omega)) hs ts h2 hx w0 w hr
theorem rparse_ok(s:ByteArray)(x:Ex)(hx:Hid (parseS s.data.toList= .ok x))(hs:s.size≤9223372036854775807)(w0 w:World)(hr:Rel w0 w):
  Calls Tryz.prog 52 #[.string s] w fun e w'=>∃v:El,e= .returned (.tuple #[EV v,.int .i64 0,.int .i64 0])∧ExAt (fun k=>w.heap.size≤k) w' v x∧Rel w0 w':=by
 have:=rparse8_any s hs w0 w hr
 rw[hx.out] at this
 refine this.mono ?_
 rintro e w' ⟨h1,v,cd,pl,rfl,rfl,rfl,h2⟩
 exact⟨v,rfl,h2,h1⟩
theorem rparse_bad(s:ByteArray)(cd pl:Int)(hx:Hid (parseS s.data.toList= .error (cd,pl)))(hs:s.size≤9223372036854775807)(w0 w:World)(hr:Rel w0 w):
  Calls Tryz.prog 52 #[.string s] w fun e w'=>e= .returned (.tuple #[.agg #[.int .i64 0,.int .i64 0,.string ⟨#[]⟩,.slice none 0 0],.int .i64 cd,.int .i64 pl])∧Rel w0 w':=by
 have:=rparse8_any s hs w0 w hr
 rw[hx.out] at this
 refine this.mono ?_
 rintro e w' ⟨h1,v,cd',pl',rfl,rfl,rfl,rfl⟩
 exact⟨rfl,h1⟩
theorem XAt.rel{w w':World}{v:Value}{x:Ex}(h:XAt w v x)(hr:Rel w w'):XAt w' v x:=by
 obtain⟨S,e,he,hx⟩:=h
 exact⟨S,e,he,hx.rel hr⟩
theorem rparse_yes14(t:List UInt8)(S:ByteArray)(hS:B t=S)(ht:t.length≤9223372036854775807)(x:Ex)(hx:parseS t= .ok x)(w:World)(hr:Rel w w):
  Calls Tryz.prog 52 #[.string S] w fun e w'=>∃(k n:Int)(X:ByteArray)(A:Option Addr)(l c:Nat),e= .returned (.tuple #[.agg #[.int .i64 k,.int .i64 n,.string X,.slice A l c],.int .i64 0,.int .i64 0])∧Hid (XAt w' (XV k n X A l c) x)∧Hid (Rel w w'):=by
 subst hS
 refine(rparse_ok (B t) x (yH (by rw[B_list];exact hx)) (by rw[B_size];exact ht) w w hr).mono ?_
 rintro e w' ⟨v,rfl,hv,hr2⟩
 exact⟨_,_,_,_,_,_,rfl,yH ⟨_,v,rfl,hv⟩,yH hr2⟩
theorem rparse_no14(t:List UInt8)(S:ByteArray)(hS:B t=S)(ht:t.length≤9223372036854775807)(cd pl:Int)(hx:parseS t= .error (cd,pl))(w:World)(hr:Rel w w):
  Calls Tryz.prog 52 #[.string S] w fun e w'=>e= .returned (.tuple #[.agg #[.int .i64 0,.int .i64 0,.string ⟨#[]⟩,.slice none 0 0],.int .i64 cd,.int .i64 pl])∧Hid (Rel w w'):=by
 subst hS
 exact(rparse_bad (B t) cd pl (yH (by rw[B_list];exact hx)) (by rw[B_size];exact ht) w w hr).mono fun e w' ⟨he,hr2⟩=>⟨he,yH hr2⟩
theorem rright14{v:Value}{x:Ex}{b:Bool}(hb:rightX x=b)(hz:size x≤2001)(w:World)(h:XAt w v x)(hr:Rel w w):
  Calls Tryz.prog 35 #[v] w fun e w'=>e= .returned (.bool b)∧Hid (Rel w w'):=by
 obtain⟨S,e,rfl,hx⟩:=h
 subst hb
 exact(rright_any x S e w w hr hx (by omega)).mono fun e w' ⟨he,hr2⟩=>⟨he,yH hr2⟩
def IsRow(k:IntKind)(w:World)(a:Option Addr)(len cap:Nat)(zs:List Int):Prop:=
 (a=none∧len=0∧cap=0∧zs=[])∨∃x:Addr,a=some x∧len≤cap∧cap≤maxLen∧zs.length=cap∧(∀j,j<zs.length→w.cell? (x.add j)=some (.int k (zs.getD j 0)))∧∀u∈zs,(Lit.int k u).wf=true
theorem wf64{a:Int}(h:(Lit.int .i64 a).wf=true):i64 a:=by
 have:=bounds_i64 h;exact⟨by omega,by omega⟩
theorem ints_of{w:World}{a:Option Addr}{len cap:Nat}{z:List Int}(h:IsRow .i64 w a len cap z):∃L:List Int,len=L.length∧IntsIn w a cap L:=by
 rcases h with ⟨rfl,rfl,rfl,rfl⟩|⟨x,rfl,hl,hm,hz,hcell,hwz⟩
 ·exact⟨[],rfl,Nat.le_refl _,Nat.zero_le _,fun z hz=>(by cases hz),fun i hi=>absurd hi (by simp)⟩
 ·have e:(z.take len).length=len:=by rw[List.length_take];omega
  refine⟨z.take len,e.symm,by omega,hm,fun u hu=>wf64 (hwz u (List.mem_of_mem_take hu)),fun i hi=> ?_⟩
  rw[e] at hi
  have hc:=hcell i (by omega)
  have eg:z.getD i 0=(z.take len)[i]'(by rw[e];exact hi):=by
   rw[List.getElem_take,List.getD_eq_getElem?_getD,List.getElem?_eq_getElem (by omega)];rfl
  rw[eg] at hc
  exact⟨x,rfl,by have:=blk_of_cell hc;rwa [block_add] at this,hc⟩
theorem IntsIn.three15{w:World}{A:Option Addr}{k:Nat}{x y z:Int}(h:IntsIn w A k [x,y,z]):∃g off:Nat,A=some ⟨g,off,none⟩∧w.cell? ⟨g,off,none⟩=some (.int .i64 x)∧w.cell? ⟨g,off+1,none⟩=some (.int .i64 y)∧w.cell? ⟨g,off+2,none⟩=some (.int .i64 z):=by
 obtain⟨a,h1,h2⟩:=h.at15 0 (by simp)
 obtain⟨b,h3,h4⟩:=h.at15 1 (by simp)
 obtain⟨c,h5,h6⟩:=h.at15 2 (by simp)
 rw[h1] at h3 h5
 cases h3;cases h5
 obtain⟨g,off,rfl⟩:=addr_spot15 h2
 exact⟨g,off,h1,h2,h4,h6⟩
theorem rtick15(n:Int)(w:World):Calls Tryz.prog 39 #[.int .i64 n] w fun e w'=>e= .returned (.int .i64 (tickF n))∧w=w':=by
 unfold tickF
 by_cases h:n<0
 ·rw[if_pos h]
  have h1:decide (n<0)=true:=decide_eq_true h
  go_enter Tryz.func39,Tryz.ntmps39
  go_wp2_with (fail)
  go_ret
  exact⟨rfl,rfl⟩
 ·rw[if_neg h]
  have h0:0≤n:=by omega
  by_cases h':1099511627776<n
  ·rw[if_pos h']
   have h1:decide (1099511627776<n)=true:=decide_eq_true h'
   go_enter Tryz.func39,Tryz.ntmps39
   go_wp2_with (fail)
   go_ret
   exact⟨rfl,rfl⟩
  ·rw[if_neg h']
   have h2:n≤1099511627776:=by omega
   go_enter Tryz.func39,Tryz.ntmps39
   go_wp2_with (fail)
   go_ret
   exact⟨rfl,rfl⟩
theorem rtick15_as(n m:Int)(h:Hid (tickF n=m))(w:World):Calls Tryz.prog 39 #[.int .i64 n] w fun e w'=>e= .returned (.int .i64 m)∧w=w':=by
 rw[←h.out];exact rtick15 n w
theorem rlater15(t m:Int)(w:World):Calls Tryz.prog 28 #[.int .i64 t,.int .i64 m] w fun e w'=>e= .returned (.int .i64 (laterF t m))∧w=w':=by
 have ht:=tick_bd t
 have hm:=tick_bd m
 unfold laterF
 obtain⟨a,ha⟩:∃a,tickF t=a:=⟨_,rfl⟩
 obtain⟨b,hb⟩:∃b,tickF m=b:=⟨_,rfl⟩
 rw[ha] at ht⊢
 rw[hb] at hm⊢
 obtain⟨c,hc⟩:∃c,tickF (a+b)=c:=⟨_,rfl⟩
 rw[hc]
 have HA:=yH ha
 have HB:=yH hb
 have HC:=yH hc
 obtain⟨a0,a1⟩:=ht
 obtain⟨b0,b1⟩:=hm
 clear ha hb hc
 go_enter Tryz.func28,Tryz.ntmps28
 go_wp2_with (first
  |(go_at_call 39;(with_reducible refine(rtick15_as t a HA _).mono ?_);rintro e w' ⟨rfl,rfl⟩)
  |(go_at_call 39;(with_reducible refine(rtick15_as m b HB _).mono ?_);rintro e w' ⟨rfl,rfl⟩)
  |(go_at_call 39;(with_reducible refine(rtick15_as (a+b) c HC _).mono ?_);rintro e w' ⟨rfl,rfl⟩))
 go_ret
 exact⟨rfl,rfl⟩
theorem rlater15_as(t m r:Int)(h:Hid (laterF t m=r))(w:World):Calls Tryz.prog 28 #[.int .i64 t,.int .i64 m] w fun e w'=>e= .returned (.int .i64 r)∧w=w':=by
 rw[←h.out];exact rlater15 t m w
theorem rswings_any(A:Option Addr)(n k:Nat)(L:List Int)(hn:L.length=n)(t:Int)(w:World)(hr:Rel w w)(hi:IntsIn w A k L):
  Calls Tryz.prog 33 #[.slice A n k,.int .i64 t] w fun e w'=>e= .returned (.bool (swingsP L t))∧Rel w w':=by
 have HR:=yH hr
 by_cases h3:L.length=3
 ·match L,h3,hn,hi with
  |[x,y,z],_,hn,hi=>
   obtain rfl:n=3:=hn.symm
   obtain⟨g,off,rfl,c0,c1,c2⟩:=hi.three15
   have hk:3≤k:=hi.1
   have hv:swingsP [x,y,z] t=decide (y=t∧z=x):=rfl
   rw[hv]
   clear hr hi hn hv
   by_cases e1:y=t
   ·have k1:(y==t)=true:=by simpa using e1
    have hv:decide (y=t∧z=x)=(z==x):=by by_cases e2:z=x<;>simp[e1,e2]
    rw[hv]
    obtain⟨q,hq⟩:∃q,(z==x)=q:=⟨_,rfl⟩
    rw[hq]
    clear e1 hv
    go_enter Tryz.func33,Tryz.ntmps33
    go_upto_region 1 with (fail)
    refine wp_region_held_drew (S:=(fun w'=>Rel w w'∧w'.cell? ⟨g,off,none⟩=some (.int .i64 x)∧w'.cell? ⟨g,off+1,none⟩=some (.int .i64 y)∧w'.cell? ⟨g,off+2,none⟩=some (.int .i64 z))) (by kernel_rfl) ⟨HR.out.drew,c0,c1,c2⟩ (fun hH=> ?_)
    refine yL [0,1,2,3,4,5,6,7,8,9,10,11,12,13,14,15,16,17,18,19] (by kernel_rfl) hH (fun _ _ _ _ _=>id) ?_
    iterate 20
     refine yS rfl rfl (by rfl) ?_ ?_ ?_
     rotate_left
     ·rintro w' ⟨s0,s1,s2,s3⟩;go_simp;try with_reducible rfl
     try simp only[Act.put,yA,yB,yC]
    refine yZ ?_
    refine wpAnyH_done (by kernel_rfl) ?_ _
    go_wp2_with (fail)
    go_ret
    exact⟨rfl,hH.1⟩
   ·have k1:(y==t)=false:=by simpa using e1
    rw[decide_eq_false (fun e=>e1 e.1)]
    clear e1
    go_enter Tryz.func33,Tryz.ntmps33
    go_upto_region 1 with (fail)
    refine wp_region_held_drew (S:=(fun w'=>Rel w w'∧w'.cell? ⟨g,off,none⟩=some (.int .i64 x)∧w'.cell? ⟨g,off+1,none⟩=some (.int .i64 y)∧w'.cell? ⟨g,off+2,none⟩=some (.int .i64 z))) (by kernel_rfl) ⟨HR.out.drew,c0,c1,c2⟩ (fun hH=> ?_)
    refine yL [0,1,2,3,4,5,6,7,8,9,10,11,12,13,14,15,16,17,18,19] (by kernel_rfl) hH (fun _ _ _ _ _=>id) ?_
    iterate 11
     refine yS rfl rfl (by rfl) ?_ ?_ ?_
     rotate_left
     ·rintro w' ⟨s0,s1,s2,s3⟩;go_simp;try with_reducible rfl
     try simp only[Act.put,yA,yB,yC]
    iterate 7
     refine yV rfl rfl (by rfl) ?_
     try simp only[Act.put,yA,yB,yC]
    iterate 2
     refine yS rfl rfl (by rfl) ?_ ?_ ?_
     rotate_left
     ·rintro w' ⟨s0,s1,s2,s3⟩;go_simp;try with_reducible rfl
     try simp only[Act.put,yA,yB,yC]
    refine yZ ?_
    refine wpAnyH_done (by kernel_rfl) ?_ _
    go_wp2_with (fail)
    go_ret
    exact⟨rfl,hH.1⟩
 ·have hv:swingsP L t=false:=by
   cases e:swingsP L t with
   |false=>rfl
   |true=>exact absurd (swings_len e) h3
  have k1:((n:Int)==3)=false:=by simpa using (show ¬(n:Int)=3 by omega)
  have k2: ¬n=3:=by omega
  rw[hv]
  clear hr hi hv h3 hn
  go_enter Tryz.func33,Tryz.ntmps33
  go_upto_region 1 with (fail)
  refine wp_region_held_drew (S:=(fun w'=>Rel w w'∧True)) (by kernel_rfl) ⟨HR.out.drew,trivial⟩ (fun hH=> ?_)
  refine yL [0,1,2,3,4,5,6,7,8,9,10,11,12,13,14,15,16,17,18,19] (by kernel_rfl) hH (fun _ _ _ _ _=>id) ?_
  iterate 4
   refine yS rfl rfl (by rfl) ?_ ?_ ?_
   rotate_left
   ·rintro w' ⟨s0,s1⟩;go_simp;try with_reducible rfl
   try simp only[Act.put,yA,yB,yC]
  iterate 5
   refine yV rfl rfl (by rfl) ?_
   try simp only[Act.put,yA,yB,yC]
  iterate 2
   refine yS rfl rfl (by rfl) ?_ ?_ ?_
   rotate_left
   ·rintro w' ⟨s0,s1⟩;go_simp;try with_reducible rfl
   try simp only[Act.put,yA,yB,yC]
  iterate 7
   refine yV rfl rfl (by rfl) ?_
   try simp only[Act.put,yA,yB,yC]
  iterate 2
   refine yS rfl rfl (by rfl) ?_ ?_ ?_
   rotate_left
   ·rintro w' ⟨s0,s1⟩;go_simp;try with_reducible rfl
   try simp only[Act.put,yA,yB,yC]
  refine yZ ?_
  refine wpAnyH_done (by kernel_rfl) ?_ _
  go_wp2_with (fail)
  go_ret
  exact⟨rfl,hH.1⟩
theorem six_of15{w:World}{g:Nat}{t:TypeId}{a b c d e f:Value}(h:Bk w g t #[a,b,c,d,e,f]):
  (w.cell? ⟨g,0,none⟩=some a∧w.cell? ⟨g,1,none⟩=some b∧w.cell? ⟨g,2,none⟩=some c∧w.cell? ⟨g,3,none⟩=some d∧w.cell? ⟨g,4,none⟩=some e∧w.cell? ⟨g,5,none⟩=some f):=
 ⟨h.cell 0,h.cell 1,h.cell 2,h.cell 3,h.cell 4,h.cell 5⟩
theorem rready_any(f c m o b:Int)(S:ByteArray)(la at_ sw:Int)(A:Option Addr)(n k:Nat)(w:World)(hr:Rel w w):
  Calls Tryz.prog 13 #[.agg #[.int .i64 f,.int .i64 c,.int .i64 m,.int .i64 o,.int .i64 b,.string S],.agg #[.int .i64 la,.int .i64 at_,.slice A n k,.int .i64 sw]] w fun e w'=>e= .returned (.int .i64 (if la=0 then 0 else laterF at_ (byP o (swK sw))))∧Rel w w':=by
 have HX:=yH ((Bk.new w 24 #[.int .i64 f,.int .i64 c,.int .i64 m,.int .i64 o,.int .i64 b,.string S]).alloc (.cells #[.int .i64 la,.int .i64 at_,.slice A n k,.int .i64 sw] 27))
 have HP:=yH (Bk.new (w.alloc (.cells #[.int .i64 f,.int .i64 c,.int .i64 m,.int .i64 o,.int .i64 b,.string S] 24)) 27 #[.int .i64 la,.int .i64 at_,.slice A n k,.int .i64 sw])
 have HR:=yH ((hr.alloc (.cells #[.int .i64 f,.int .i64 c,.int .i64 m,.int .i64 o,.int .i64 b,.string S] 24)).alloc (.cells #[.int .i64 la,.int .i64 at_,.slice A n k,.int .i64 sw] 27))
 rw[World.size_alloc] at HP
 by_cases h0:la=0
 ·rw[if_pos h0]
  have k0:(la==0)=true:=by simpa using h0
  clear h0
  go_enter Tryz.func13,Tryz.ntmps13
  go_upto_region 1 with (fail)
  obtain⟨W,hW⟩:∃W,(w.alloc (.cells #[.int .i64 f,.int .i64 c,.int .i64 m,.int .i64 o,.int .i64 b,.string S] 24)).alloc (.cells #[.int .i64 la,.int .i64 at_,.slice A n k,.int .i64 sw] 27)=W:=⟨_,rfl⟩
  obtain⟨gp,hgp⟩:∃g,w.heap.size+1=g:=⟨_,rfl⟩
  obtain⟨gx,hgx⟩:∃g,w.heap.size=g:=⟨_,rfl⟩
  rw[hW] at HX HP HR
  rw[hgp] at HP
  rw[hgx] at HX
  try rw[hW]
  try rw[hgp]
  try rw[hgx]
  clear hW hgp hgx hr
  obtain⟨⟨p0,p1,p2,p3⟩,_⟩:=four_of HP.out
  go_wp2_with (fail)
  go_ret
  exact⟨rfl,HR.out⟩
 ·rw[if_neg h0]
  have k0:(la==0)=false:=by simpa using h0
  obtain⟨B0,hB0⟩:∃B,byP o 0=B:=⟨_,rfl⟩
  have HB0:=yH (show laterF o 0=B0 from hB0)
  have HE0:=yH hB0
  obtain⟨K,hK⟩:∃K,swK sw=K:=⟨_,rfl⟩
  have hK2:(K:Int)=max (min sw 6) 0:=by rw[←hK];unfold swK;omega
  rw[hK]
  obtain⟨V,hV⟩:∃V,laterF at_ (byP o K)=V:=⟨_,rfl⟩
  have HV:=yH hV
  rw[hV]
  clear h0 hB0 hK hV
  go_enter Tryz.func13,Tryz.ntmps13
  go_upto_region 1 with (fail)
  obtain⟨W,hW⟩:∃W,(w.alloc (.cells #[.int .i64 f,.int .i64 c,.int .i64 m,.int .i64 o,.int .i64 b,.string S] 24)).alloc (.cells #[.int .i64 la,.int .i64 at_,.slice A n k,.int .i64 sw] 27)=W:=⟨_,rfl⟩
  obtain⟨gp,hgp⟩:∃g,w.heap.size+1=g:=⟨_,rfl⟩
  obtain⟨gx,hgx⟩:∃g,w.heap.size=g:=⟨_,rfl⟩
  rw[hW] at HX HP HR
  rw[hgp] at HP
  rw[hgx] at HX
  try rw[hW]
  try rw[hgp]
  try rw[hgx]
  clear hW hgp hgx hr
  obtain⟨⟨p0,p1,p2,p3⟩,_⟩:=four_of HP.out
  obtain⟨x0,x1,x2,x3,x4,x5⟩:=six_of15 HX.out
  go_upto_block 0 with (go_at_call 28;(with_reducible refine(rlater15_as o 0 B0 HB0 _).mono ?_);rintro e w9 ⟨rfl,rfl⟩)
  go_wp2_with (fail)
  go_loopw [5,6] (fun v i wr=>∃j:Nat,i= .int .i64 (j:Int)∧j≤K∧v= .int .i64 (byP o j)∧wr=W) (fun _ i _=>6-(RowKit.intOf i).toNat)
  case atStart=>exact⟨0,rfl,by omega,by rw[HE0.out],rfl⟩
  case round=>
   obtain⟨j,rfl,hj,rfl,rfl⟩:=hrel
   obtain⟨Bj,hBj⟩:∃B,byP o j=B:=⟨_,rfl⟩
   rw[hBj]
   by_cases hlt:j<K
   ·have k1:decide ((j:Int)<sw)=true:=decide_eq_true (by omega)
    have k2:decide ((j:Int)<6)=true:=decide_eq_true (by omega)
    obtain⟨Bn,hBn⟩:∃B,laterF Bj Bj=B:=⟨_,rfl⟩
    have HBn:=yH hBn
    have HNx:=yH (show byP o (j+1)=Bn by show laterF (byP o j) (byP o j)=Bn;rw[hBj,hBn])
    clear hBj hBn
    go_wp2_with (go_at_call 28;(with_reducible refine(rlater15_as Bj Bj Bn HBn _).mono ?_);rintro e w9 ⟨rfl,rfl⟩)
    go_roundw
    case rel=>exact⟨j+1,by go_num,by omega,by first|rw[HNx.out]|trivial,by first|rfl|trivial⟩
    case measure=>simp[RowKit.intOf];omega
   ·obtain rfl:j=K:=by omega
    have HVj:=yH (show laterF at_ Bj=V by rw[←hBj];exact HV.out)
    clear hBj
    by_cases h6:(j:Int)<sw
    ·have k1:decide ((j:Int)<sw)=true:=decide_eq_true h6
     have k2:decide ((j:Int)<6)=false:=decide_eq_false (by omega)
     go_wp2_with (go_at_call 28;(with_reducible refine(rlater15_as at_ Bj V HVj _).mono ?_);rintro e w9 ⟨rfl,rfl⟩)
     go_ret
     exact⟨rfl,HR.out⟩
    ·have k1:decide ((j:Int)<sw)=false:=decide_eq_false h6
     go_wp2_with (go_at_call 28;(with_reducible refine(rlater15_as at_ Bj V HVj _).mono ?_);rintro e w9 ⟨rfl,rfl⟩)
     go_ret
     exact⟨rfl,HR.out⟩
end Go.Proofs.YtjhjdiaomnpkmaaGreatDoor
