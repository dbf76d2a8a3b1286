/- The landed Run and Steps. -/

import Derived.Test.YtfekhbeaphpelaaGreatDoorY21
set_option maxRecDepth 100000
set_option maxHeartbeats 8000000
set_option linter.unusedVariables false
set_option linter.unusedSimpArgs false
namespace Go.Proofs.YtfekhbeaphpelaaGreatDoor
open Go.RowKit Go.Lib
theorem rv_err(e:Int):RV (.error e)= .tuple #[yI 0,.bool false,yI e]:=rfl
theorem end_err{T:List Ce}{er:Int}(h:er≠0):endR (T,er)= .error er:=by unfold endR;rw[if_neg h]
theorem end_one(c:Ce):endR ([c],0)= .ok c:=rfl
theorem end_not{T:List Ce}(h:T.length≠1):endR (T,0)= .error 100:=by
 unfold endR
 rw[if_pos rfl]
 match T,h with
 |[],_=>rfl
 |[c],h=>exact absurd rfl h
 |_::_::_,_=>rfl
def DP(w:World)(ov:Value)(T:List Ce)(er:Int)(k:Nat)(e:Ending)(w':World):Prop:=
 ∃(b D:Nat)(nx:Int)(S:List Ce),e= .returned (.tuple #[.pointer (some ⟨b,0,none⟩),yI er])∧Hid (Mh w' w.heap.size D b ov nx (k:Int) S)∧Hid (er=0→S=T)∧Hid (Rel w w')
theorem ldone_as(A A':Option Addr)(c c':Nat)(l:List In)(os:List Of)(T:List Ce)(er:Int)(k:Nat)(hd:Hid (doneR os l=((T,er),k)))(w0 w:World)(hr:Rel w0 w)(h:InsArg w A c l)(ho:OffArg w A' c' os)(n m:Nat)(hn:Hid (l.length=n∧os.length=m)):
  Calls Tryz.prog 66 #[.slice A n c,.slice A' m c'] w (DP w (.slice A' m c') T er k):=by
 obtain⟨h1,h2⟩:=hn.out
 subst h1 h2
 refine(ldone_any veval_any A A' c c' l os w0 w hr h ho).mono ?_
 rintro e w' ⟨b,D,nx,S,h1,h2,h3,h4⟩
 rw[hd.out] at h1 h2 h3
 exact⟨b,D,nx,S,h1,yH h2,yH h3,yH h4⟩
theorem Mh.one{w:World}{C D b:Nat}{ov:Value}{nx st:Int}{x:Ce}(h:Mh w C D b ov nx st [x]):
  ∃(A:Option Addr)(g c:Nat),Bk w b 109 #[ov,yI nx,yI st,.slice A 1 c]∧A=some ⟨g,0,none⟩∧w.cell? ⟨g,0,none⟩=some (yI (x.getD 0))∧w.cell? ⟨g,1,none⟩=some (.bool x.isSome):=by
 obtain⟨h1,h2,h3,h4,A,c,hb,ho,h5⟩:=h
 obtain⟨g,cap,hv,_,_,_,t0,t1,_⟩:=StkOwn.top (S:=[]) (c:=x) ho
 injection hv with e1 e2 e3
 exact⟨A,g,c,hb,e1,t0,t1⟩
theorem Mh.not{w:World}{C D b:Nat}{ov:Value}{nx st:Int}{T:List Ce}(h:Mh w C D b ov nx st T)(hn:T.length≠1):
  ∃(A:Option Addr)(c L:Nat),Bk w b 109 #[ov,yI nx,yI st,.slice A L c]∧((L:Int) !=1)=true:=by
 obtain⟨h1,h2,h3,h4,A,c,hb,ho,h5⟩:=h
 exact⟨A,c,T.length,hb,by simp;omega⟩
theorem lrun_any:RunOk:=fun A A' c c' l os w0 w hr h ho=>by
 obtain⟨⟨⟨T,er⟩,k⟩,hR⟩:∃R,doneR os l=R:=⟨_,rfl⟩
 have hE:runS os l=endR (T,er):=by rw[(run_done os l).1,hR]
 rw[hE]
 obtain⟨n,hn⟩:∃n,l.length=n:=⟨_,rfl⟩
 obtain⟨m,hm⟩:∃m,os.length=m:=⟨_,rfl⟩
 have HC:=yH (ldone_as A A' c c' l os T er k (yH hR) w0 w hr h ho n m (yH ⟨hn,hm⟩))
 rw[hn,hm]
 have HR:=yH hr
 clear hr h ho hR hE hn hm
 by_cases he:er=0
 ·subst he
  by_cases h1:T.length=1
  ·obtain⟨x,rfl⟩:∃x,T=[x]:=by
    match T,h1 with
    |[x],_=>exact⟨x,rfl⟩
   rw[end_one,lrv_ok]
   obtain⟨p,hp⟩:∃p,x.getD 0=p:=⟨_,rfl⟩
   obtain⟨q,hq⟩:∃q,x.isSome=q:=⟨_,rfl⟩
   rw[hp,hq]
   have HX:=yH (And.intro hp hq)
   clear hp hq h1
   go_enter Tryz.func46,Tryz.ntmps46
   go_upto_region 6 with (go_at_call 66;(with_reducible refine HC.out.mono ?_);rintro e w1 ⟨b,D,nx,S,rfl,HM,HT,HW⟩;obtain⟨A1,g1,c1,hb,hA,t0,t1⟩:=Mh.one (x:=x) (by have:=HM.out;rw[HT.out rfl] at this;exact this);subst hA;rw[HX.out.1] at t0;rw[HX.out.2] at t1;obtain⟨⟨b0,b1,b2,b3⟩,_⟩:=hb.four;clear hb HM HT)
   go_quiet (fail)
   go_wp2_with (fail)
   go_ret3
   exact⟨rfl,(HR.out.trans HW.out).drewN _⟩
  ·rw[end_not h1,rv_err]
   have HN:=yH h1
   clear h1
   go_enter Tryz.func46,Tryz.ntmps46
   go_wp2_with (go_at_call 66;(with_reducible refine HC.out.mono ?_);rintro e w1 ⟨b,D,nx,S,rfl,HM,HT,HW⟩;obtain⟨A1,c1,L1,hb,t1⟩:=Mh.not (T:=T) (by have:=HM.out;rw[HT.out rfl] at this;exact this) HN.out;obtain⟨⟨b0,b1,b2,b3⟩,_⟩:=hb.four;clear hb HM HT)
   go_ret3
   exact⟨rfl,HR.out.trans HW.out⟩
 ·rw[end_err he,rv_err]
  have heb:(er==0)=false:=by simpa using he
  have hen:(er !=0)=true:=by simpa using he
  go_enter Tryz.func46,Tryz.ntmps46
  go_wp2_with (go_at_call 66;(with_reducible refine HC.out.mono ?_);rintro e w1 ⟨b,D,nx,S,rfl,HM,HT,HW⟩)
  go_ret3
  exact⟨rfl,HR.out.trans HW.out⟩
theorem lclamp14(n l h:Int)(w:World):Calls Tryz.prog 29 #[yI n,yI l,yI h] w fun e w'=>e= .returned (yI (clampC n l h))∧w=w':=by
 by_cases h1:h<n<;>by_cases h2:h<l<;>by_cases h3:n<l
 all_goals
  go_enter Tryz.func29,Tryz.ntmps29
  go_wp2
  all_goals
   go_ret
   exact⟨ret_int (by unfold clampC;omega),rfl⟩
theorem lclamp14_as(n l h r:Int)(hr:Hid (clampC n l h=r))(w:World):Calls Tryz.prog 29 #[yI n,yI l,yI h] w fun e w'=>e= .returned (yI r)∧w=w':=by
 rw[←hr.out];exact lclamp14 n l h w
def XNew(lb:Nat)(w:World)(v:Value)(x:Ex):Prop:=∃e:El,EV e=v∧ExAt (fun k=>lb≤k) w e x
theorem XNew.at{lb:Nat}{w:World}{v:Value}{x:Ex}(h:XNew lb w v x):XAt w v x:=by
 obtain⟨e,he,hx⟩:=h
 exact⟨_,e,he,hx⟩
theorem XNew.rel{lb:Nat}{w w':World}{v:Value}{x:Ex}(h:XNew lb w v x)(hr:Rel w w'):XNew lb w' v x:=by
 obtain⟨e,he,hx⟩:=h
 exact⟨e,he,hx.rel hr⟩
theorem XNew.put4{lb g:Nat}{w:World}{v:Value}{x:Ex}(h:XNew lb w v x)(hg:g<lb)(hlb:lb≤w.heap.size)(a b c d:Value):XNew lb ((((w.setCell ⟨g,0,none⟩ a).setCell ⟨g,1,none⟩ b).setCell ⟨g,2,none⟩ c).setCell ⟨g,3,none⟩ d) v x:=by
 obtain⟨e,he,hx⟩:=h
 exact⟨e,he,hx.grown (put4_grown w g a b c d) (fun k hk=>by
  have hk:lb≤k:=hk
  exact⟨hk,fun e=>by injection e;omega⟩)⟩
theorem lparse_yes14(t:List UInt8)(S:ByteArray)(hS:B t=S)(ht:t.length≤9223372036854775807)(x:Ex)(hx:parseS t= .ok x)(w:World)(hr:Rel w w):
  Calls Tryz.prog 35 #[.string S] w fun e w'=>∃(k n:Int)(X:ByteArray)(A:Option Addr)(l c:Nat),e= .returned (.tuple #[.agg #[yI k,yI n,.string X,.slice A l c],yI 0,yI 0])∧Hid (XNew w.heap.size w' (XV k n X A l c) x)∧Hid (Rel w w'):=by
 subst hS
 have h:=parseOk (B t) (by rw[B_size];exact ht) w w hr
 rw[B_list,hx] at h
 refine h.mono ?_
 rintro e w' ⟨v,rfl,hv,hr2⟩
 exact⟨_,_,_,_,_,_,rfl,yH ⟨v,rfl,hv⟩,yH hr2⟩
theorem lparse_no14(t:List UInt8)(S:ByteArray)(hS:B t=S)(ht:t.length≤9223372036854775807)(cd pl:Int)(hx:parseS t= .error (cd,pl))(w:World)(hr:Rel w w):
  Calls Tryz.prog 35 #[.string S] w fun e w'=>e= .returned (.tuple #[.agg #[yI 0,yI 0,.string ⟨#[]⟩,.slice none 0 0],yI cd,yI pl])∧Hid (Rel w w'):=by
 subst hS
 have h:=parseOk (B t) (by rw[B_size];exact ht) w w hr
 rw[B_list,hx] at h
 exact h.mono fun e w' ⟨he,hr2⟩=>⟨he,yH hr2⟩
theorem lright14{v:Value}{x:Ex}{b:Bool}(hb:rightX x=b)(hz:size x≤2001)(w:World)(h:XAt w v x)(hr:Rel w w):
  Calls Tryz.prog 36 #[v] w fun e w'=>e= .returned (.bool b)∧Hid (Rel w w'):=by
 obtain⟨S,e,rfl,hx⟩:=h
 subst hb
 exact(tright_any x S e w w hr hx (by omega)).mono fun e w' ⟨he,hr2⟩=>⟨he,yH hr2⟩
theorem lcompile14{v:Value}{x:Ex}(hb:rightX x=true)(hz:size x≤2001)(w:World)(h:XAt w v x)(hr:Rel w w):
  Calls Tryz.prog 45 #[v] w fun e w'=>∃(A:Option Addr)(n c:Nat),e= .returned (.tuple #[.slice A n c,yI 0])∧Hid (n=(cod x 0).length)∧Hid (InsArg w' A c (cod x 0))∧Hid (Rel w w'):=by
 obtain⟨S,e,rfl,hx⟩:=h
 refine(compile_any x S e w w hr hx (by omega)).mono ?_
 rintro e w' ⟨A,c,rfl,ho,h2⟩
 have hf:=codX_fit x
 rw[(codX_yes hb).1] at ho hf
 rw[(codX_yes hb).1,(codX_yes hb).2]
 exact⟨A,_,c,rfl,yH rfl,yH (ho.arg hf),yH h2⟩
theorem lrun14{x:Ex}(hb:rightX x=true){os:List Of}{n e:Int}{b:Bool}(hv:RV (evalS os x)= .tuple #[yI n,.bool b,yI e])(A A':Option Addr)(c c' m N:Nat)(hm:Hid (m=(cod x 0).length))(hN:os.length=N)(w:World)(h:InsArg w A c (cod x 0))(ho:OffArg w A' c' os)(hr:Rel w w):
  Calls Tryz.prog 46 #[.slice A m c,.slice A' N c'] w fun z w'=>z= .returned (.tuple #[yI n,.bool b,yI e])∧Hid (Rel w w'):=by
 obtain rfl:=hm.out
 subst hN
 rw[←hv,←run_same os hb]
 exact(lrun_any A A' c c' _ os w w hr h ho).mono fun z w' ⟨h1,h2⟩=>⟨h1,yH h2⟩
def rowB(f c m o b:Int)(k:Nat):Prop:=match k with
 |0=>1≤f∧f≤1000000000000
 |1=>f≤c∧c≤1000000000000
 |2=>0≤m∧m≤c
 |3=>0≤o∧o≤1048576
 |_=>0≤b∧b≤1000000000000
theorem rows_all{f c m o b:Int}{t:List UInt8}(h:∀k,k<5→rowB f c m o b k):numsOk (f,c,m,o,b,t)=true:=by
 have h0:1≤f∧f≤1000000000000:=h 0 (by omega)
 have h1:f≤c∧c≤1000000000000:=h 1 (by omega)
 have h2:0≤m∧m≤c:=h 2 (by omega)
 have h3:0≤o∧o≤1048576:=h 3 (by omega)
 have h4:0≤b∧b≤1000000000000:=h 4 (by omega)
 exact nums_iff.2 (show 1≤f∧f≤c∧c≤1000000000000∧0≤m∧m≤c∧0≤o∧o≤1048576∧0≤b∧b≤1000000000000 by omega)
theorem rows_not{f c m o b:Int}{t:List UInt8}{k:Nat}(h: ¬rowB f c m o b k):numsOk (f,c,m,o,b,t)=false:=by
 cases hn:numsOk (f,c,m,o,b,t) with
 |false=>rfl
 |true=>
  exfalso;apply h
  have hn2:1≤f∧f≤c∧c≤1000000000000∧0≤m∧m≤c∧0≤o∧o≤1048576∧0≤b∧b≤1000000000000:=nums_iff.1 hn
  unfold rowB
  split<;>omega
abbrev RowsV(f c m o b:Int):Array Value:= #[yI f,yI 1,yI 1000000000000,yI c,yI f,yI 1000000000000,yI m,yI 0,yI c,yI o,yI 0,yI 1048576,yI b,yI 0,yI 1000000000000]
theorem rows_at(f c m o b:Int)(k:Nat)(hk:k<5):∃x y z:Int,(∀w:World,(Instr.index 90 (.agg (RowsV f c m o b)) (yI (k:Int))).run Tryz.prog w= .ok (.agg #[yI x,yI y,yI z]) w)∧(rowB f c m o b k↔y≤x∧x≤z):=by
 have hc:k=0∨k=1∨k=2∨k=3∨k=4:=by omega
 rcases hc with rfl|rfl|rfl|rfl|rfl
 ·exact⟨f,1,1000000000000,fun _=>by kernel_rfl,Iff.rfl⟩
 ·exact⟨c,f,1000000000000,fun _=>by kernel_rfl,Iff.rfl⟩
 ·exact⟨m,0,c,fun _=>by kernel_rfl,Iff.rfl⟩
 ·exact⟨o,0,1048576,fun _=>by kernel_rfl,Iff.rfl⟩
 ·exact⟨b,0,1000000000000,fun _=>by kernel_rfl,Iff.rfl⟩
theorem lbounded_any(f c m o b:Int)(t:List UInt8)(S:ByteArray)(w:World)(hr:Rel w w):
  Calls Tryz.prog 34 #[.agg #[yI f,yI c,yI m,yI o,yI b,.string S]] w fun e w'=>e= .returned (.bool (numsOk (f,c,m,o,b,t)))∧Hid (Rel w w'):=by
 have HX:=yH (Bk.new w 25 #[yI f,yI c,yI m,yI o,yI b,.string S])
 have R1:=yH (hr.alloc (.cells #[yI f,yI c,yI m,yI o,yI b,.string S] 25))
 obtain⟨gx,hgx⟩:∃g,w.heap.size=g:=⟨_,rfl⟩
 obtain⟨W,hW⟩:∃W,w.alloc (.cells #[yI f,yI c,yI m,yI o,yI b,.string S] 25)=W:=⟨_,rfl⟩
 rw[hW] at HX R1
 rw[hgx] at HX
 go_enter Tryz.func34,Tryz.ntmps34
 go_upto_region 1 with (fail)
 try rw[hW]
 try rw[hgx]
 clear hW hgx
 obtain⟨⟨x0,x1,x2,x3,x4,x5⟩,_⟩:=six_of HX.out
 go_upto_region 2 with (fail)
 have R2:=yH (R1.out.alloc (.cells (RowsV f c m o b) 90))
 clear x0 x1 x2 x3 x4 x5
 have HV:=yH (Bk.new W 90 (RowsV f c m o b))
 obtain⟨V,hV⟩:∃V,W.alloc (.cells (RowsV f c m o b) 90)=V:=⟨_,rfl⟩
 obtain⟨gr,hgr⟩:∃g,W.heap.size=g:=⟨_,rfl⟩
 rw[hV] at R2 HV
 rw[hgr] at HV
 try rw[hV]
 try rw[hgr]
 clear hV hgr HX R1
 go_upto_block 0 with (refine wpList_load_row rfl 90 _ rfl gr rfl 90 _ (0,0) _ HV.out Tryz.underlying90 rfl (by kernel_rfl) ?_)
 have hrow:=rows_at f c m o b
 have HRo:=yH hrow
 clear hrow
 go_wp2_with (fail)
 go_loopw [27] (fun i wr=>∃j:Nat,i=yI (j:Int)∧j≤5∧Hid (∀k,k<j→rowB f c m o b k)∧Hid (Rel V wr)) (fun i _=>5-(RowKit.intOf i).toNat)
 case atStart=>exact⟨0,rfl,by omega,yH (fun k hk=>by omega),yH R2.out.self⟩
 case round=>
  obtain⟨j,rfl,hj,HAll,HW⟩:=hrel
  by_cases hlt:j<5
  ·obtain⟨x,y,z,hix,hrb⟩:=HRo.out j hlt
   have hij:(j:Int)<5:=by omega
   have HRb:=yH hrb
   have HJ:=yH hlt
   have HBk:=yH (Bk.new wr 89 #[yI x,yI y,yI z])
   have RW:=yH (HW.out.alloc (.cells #[yI x,yI y,yI z] 89))
   clear hrb hlt
   by_cases e1:x<y
   ·have d1:decide (x<y)=true:=decide_eq_true e1
    have HN:=yH (rows_not (t:=t) (fun h:rowB f c m o b j=>by have:=HRb.out.1 h;omega))
    clear e1
    go_wp2_with (fail)
    go_ret
    exact⟨ret_bool HN.out.symm,yH (R2.out.trans RW.out)⟩
   ·have d1:decide (x<y)=false:=decide_eq_false e1
    by_cases e2:z<x
    ·have d2:decide (z<x)=true:=decide_eq_true e2
     have HN:=yH (rows_not (t:=t) (fun h:rowB f c m o b j=>by have:=HRb.out.1 h;omega))
     clear e1 e2
     go_wp2_with (fail)
     go_ret
     exact⟨ret_bool HN.out.symm,yH (R2.out.trans RW.out)⟩
    ·have d2:decide (z<x)=false:=decide_eq_false e2
     have HN:=yH (HRb.out.2 ⟨by omega,by omega⟩)
     clear e1 e2
     go_wp2_with (fail)
     go_roundw
     case rel=>exact⟨j+1,by go_num,by have:=HJ.out;omega,yH (fun k hk=>(Nat.lt_or_ge k j).elim (fun h=>HAll.out k h) (fun h=>(show j=k by omega)▸HN.out)),yH RW.out⟩
     case measure=>have:=HJ.out;simp[RowKit.intOf];omega
  ·obtain rfl:j=5:=by omega
   have HN:=yH (rows_all (t:=t) HAll.out)
   go_wp2_with (fail)
   go_ret
   exact⟨ret_bool HN.out.symm,yH (R2.out.trans HW.out)⟩
theorem lstrat_range(f c m o b:Int)(t:List UInt8)(S:ByteArray)(hn:numsOk (f,c,m,o,b,t)=false)(w:World)(hr:Rel w w):
  Calls Tryz.prog 23 #[.agg #[yI f,yI c,yI m,yI o,yI b,.string S]] w fun e w'=>e= .returned (.tuple #[.agg #[yI 0,yI 0,.string ⟨#[]⟩,.slice none 0 0],yI 10])∧Hid (Rel w w'):=by
 have HB:=yH (fun(w:World)(hr:Rel w w)=>lbounded_any f c m o b t S w hr)
 rw[hn] at HB
 have HX0:=yH ((Bk.new w 25 #[yI f,yI c,yI m,yI o,yI b,.string S]).alloc (.cells #[yI 0,yI 0,.string ⟨#[]⟩,.slice none 0 0] 52))
 have HZ0:=yH (Bk.new (w.alloc (.cells #[yI f,yI c,yI m,yI o,yI b,.string S] 25)) 52 #[yI 0,yI 0,.string ⟨#[]⟩,.slice none 0 0])
 have HR0:=yH ((hr.alloc (.cells #[yI f,yI c,yI m,yI o,yI b,.string S] 25)).alloc (.cells #[yI 0,yI 0,.string ⟨#[]⟩,.slice none 0 0] 52))
 clear hr hn
 go_enter Tryz.func23,Tryz.ntmps23
 go_upto_region 1 with (fail)
 have HX:=HX0
 have HZ:=HZ0
 have R1:=HR0
 rw[World.size_alloc] at HZ
 obtain⟨W,hW⟩:∃W,(w.alloc (.cells #[yI f,yI c,yI m,yI o,yI b,.string S] 25)).alloc (.cells #[yI 0,yI 0,.string ⟨#[]⟩,.slice none 0 0] 52)=W:=⟨_,rfl⟩
 obtain⟨gz,hgz⟩:∃g,w.heap.size+1=g:=⟨_,rfl⟩
 rw[hW] at HX HZ R1
 rw[hgz] at HZ
 have sz:w.heap.size≤gz:=by omega
 try rw[hW]
 try rw[hgz]
 obtain⟨gx,hgx⟩:∃g,w.heap.size=g:=⟨_,rfl⟩
 rw[hgx] at HX
 try rw[hgx]
 clear hW hgz hgx HX0 HZ0 HR0
 obtain⟨⟨x0,x1,x2,x3,x4,x5⟩,_⟩:=six_of HX.out
 obtain⟨⟨z0,z1,z2,z3⟩,⟨zf0,zf1,zf2,zf3⟩⟩:=HZ.out.four
 go_upto_region 2 with (go_at_call 34;(with_reducible refine(HB.out _ R1.out.self).mono ?_);rintro e w2 ⟨rfl,h2⟩;have R2:=yH (R1.out.trans h2.out);have HX2:=yH (HX.out.rel h2.out);have HZ2:=yH (HZ.out.rel h2.out);clear h2;clear x0 x1 x2 x3 x4 x5 z0 z1 z2 z3 zf0 zf1 zf2 zf3;obtain⟨⟨x0,x1,x2,x3,x4,x5⟩,_⟩:=six_of HX2.out;obtain⟨⟨z0,z1,z2,z3⟩,⟨zf0,zf1,zf2,zf3⟩⟩:=HZ2.out.four)
 go_wp2_with (fail)
 obtain⟨⟨y0,y1,y2,y3⟩,_⟩:=(HZ2.out.put4 (yI 0) (yI 0) (.string ⟨#[]⟩) (.slice none 0 0)).four
 have RW:=R2.out.put4 sz (yI 0) (yI 0) (.string ⟨#[]⟩) (.slice none 0 0)
 refine bodyPost_ret (v:= .tuple #[.agg #[yI 0,yI 0,.string ⟨#[]⟩,.slice none 0 0],yI 10]) (by simp[results,Tryz.results23,go_sem,y0,y1,y2,y3];first|done|rfl) rfl ⟨rfl,yH RW⟩
theorem lstrat_no(f c m o b:Int)(t:List UInt8)(S:ByteArray)(hS:B t=S)(ht:t.length≤9223372036854775807)(hn:numsOk (f,c,m,o,b,t)=true)(cd pl:Int)(hcd:(cd !=0)=true)(hx:parseS t= .error (cd,pl))(w:World)(hr:Rel w w):
  Calls Tryz.prog 23 #[.agg #[yI f,yI c,yI m,yI o,yI b,.string S]] w fun e w'=>e= .returned (.tuple #[.agg #[yI 0,yI 0,.string ⟨#[]⟩,.slice none 0 0],yI cd])∧Hid (Rel w w'):=by
 have HB:=yH (fun(w:World)(hr:Rel w w)=>lbounded_any f c m o b t S w hr)
 rw[hn] at HB
 have HP:=yH (fun(w:World)(hr:Rel w w)=>lparse_no14 t S hS ht cd pl hx w hr)
 have HX0:=yH ((Bk.new w 25 #[yI f,yI c,yI m,yI o,yI b,.string S]).alloc (.cells #[yI 0,yI 0,.string ⟨#[]⟩,.slice none 0 0] 52))
 have HZ0:=yH (Bk.new (w.alloc (.cells #[yI f,yI c,yI m,yI o,yI b,.string S] 25)) 52 #[yI 0,yI 0,.string ⟨#[]⟩,.slice none 0 0])
 have HR0:=yH ((hr.alloc (.cells #[yI f,yI c,yI m,yI o,yI b,.string S] 25)).alloc (.cells #[yI 0,yI 0,.string ⟨#[]⟩,.slice none 0 0] 52))
 clear hr hn hS hx ht
 go_enter Tryz.func23,Tryz.ntmps23
 go_upto_region 1 with (fail)
 have HX:=HX0
 have HZ:=HZ0
 have R1:=HR0
 rw[World.size_alloc] at HZ
 obtain⟨W,hW⟩:∃W,(w.alloc (.cells #[yI f,yI c,yI m,yI o,yI b,.string S] 25)).alloc (.cells #[yI 0,yI 0,.string ⟨#[]⟩,.slice none 0 0] 52)=W:=⟨_,rfl⟩
 obtain⟨gz,hgz⟩:∃g,w.heap.size+1=g:=⟨_,rfl⟩
 rw[hW] at HX HZ R1
 rw[hgz] at HZ
 have sz:w.heap.size≤gz:=by omega
 try rw[hW]
 try rw[hgz]
 obtain⟨gx,hgx⟩:∃g,w.heap.size=g:=⟨_,rfl⟩
 rw[hgx] at HX
 try rw[hgx]
 clear hW hgz hgx HX0 HZ0 HR0
 obtain⟨⟨x0,x1,x2,x3,x4,x5⟩,_⟩:=six_of HX.out
 obtain⟨⟨z0,z1,z2,z3⟩,⟨zf0,zf1,zf2,zf3⟩⟩:=HZ.out.four
 go_upto_region 3 with (go_at_call 34;(with_reducible refine(HB.out _ R1.out.self).mono ?_);rintro e w2 ⟨rfl,h2⟩;have R2:=yH (R1.out.trans h2.out);have HX2:=yH (HX.out.rel h2.out);have HZ2:=yH (HZ.out.rel h2.out);clear h2;clear x0 x1 x2 x3 x4 x5 z0 z1 z2 z3 zf0 zf1 zf2 zf3;obtain⟨⟨x0,x1,x2,x3,x4,x5⟩,_⟩:=six_of HX2.out;obtain⟨⟨z0,z1,z2,z3⟩,⟨zf0,zf1,zf2,zf3⟩⟩:=HZ2.out.four)
 go_upto_region 4 with (go_at_call 35;(with_reducible refine(HP.out w2 R2.out.self).mono ?_);rintro e w3 ⟨rfl,h3⟩;have R3:=yH (R2.out.trans h3.out);have HX3:=yH (HX2.out.rel h3.out);have HZ3:=yH (HZ2.out.rel h3.out);clear h3;clear x0 x1 x2 x3 x4 x5 z0 z1 z2 z3 zf0 zf1 zf2 zf3;obtain⟨⟨x0,x1,x2,x3,x4,x5⟩,_⟩:=six_of HX3.out;obtain⟨⟨z0,z1,z2,z3⟩,⟨zf0,zf1,zf2,zf3⟩⟩:=HZ3.out.four)
 have HZ4:=yH (HZ3.out.alloc (.cells #[yI 0,yI 0,.string ⟨#[]⟩,.slice none 0 0] 52))
 have R4:=yH (R3.out.alloc (.cells #[yI 0,yI 0,.string ⟨#[]⟩,.slice none 0 0] 52))
 obtain⟨W4,hW4⟩:∃W,w3.alloc (.cells #[yI 0,yI 0,.string ⟨#[]⟩,.slice none 0 0] 52)=W:=⟨_,rfl⟩
 rw[hW4] at HZ4 R4
 try rw[hW4]
 clear hW4
 clear x0 x1 x2 x3 x4 x5 z0 z1 z2 z3 zf0 zf1 zf2 zf3
 obtain⟨⟨z0,z1,z2,z3⟩,⟨zf0,zf1,zf2,zf3⟩⟩:=HZ4.out.four
 go_wp2_with (fail)
 obtain⟨⟨y0,y1,y2,y3⟩,_⟩:=(HZ4.out.put4 (yI 0) (yI 0) (.string ⟨#[]⟩) (.slice none 0 0)).four
 have RW:=R4.out.put4 sz (yI 0) (yI 0) (.string ⟨#[]⟩) (.slice none 0 0)
 refine bodyPost_ret (v:= .tuple #[.agg #[yI 0,yI 0,.string ⟨#[]⟩,.slice none 0 0],yI cd]) (by simp[results,Tryz.results23,go_sem,y0,y1,y2,y3];first|done|rfl) rfl ⟨rfl,yH RW⟩
theorem lstrat_arg(f c m o b:Int)(t:List UInt8)(S:ByteArray)(hS:B t=S)(ht:t.length≤9223372036854775807)(hn:numsOk (f,c,m,o,b,t)=true)(x:Ex)(hx:parseS t= .ok x)(hb:rightX x=false)(w:World)(hr:Rel w w):
  Calls Tryz.prog 23 #[.agg #[yI f,yI c,yI m,yI o,yI b,.string S]] w fun e w'=>e= .returned (.tuple #[.agg #[yI 0,yI 0,.string ⟨#[]⟩,.slice none 0 0],yI 1])∧Hid (Rel w w'):=by
 have HB:=yH (fun(w:World)(hr:Rel w w)=>lbounded_any f c m o b t S w hr)
 rw[hn] at HB
 have hz:=parse_size hx
 have HP:=yH (fun(w:World)(hr:Rel w w)=>lparse_yes14 t S hS ht x hx w hr)
 have HRr:=yH (fun(v:Value)(w:World)(h:XAt w v x)(hr:Rel w w)=>lright14 hb hz w h hr)
 have HX0:=yH ((Bk.new w 25 #[yI f,yI c,yI m,yI o,yI b,.string S]).alloc (.cells #[yI 0,yI 0,.string ⟨#[]⟩,.slice none 0 0] 52))
 have HZ0:=yH (Bk.new (w.alloc (.cells #[yI f,yI c,yI m,yI o,yI b,.string S] 25)) 52 #[yI 0,yI 0,.string ⟨#[]⟩,.slice none 0 0])
 have HR0:=yH ((hr.alloc (.cells #[yI f,yI c,yI m,yI o,yI b,.string S] 25)).alloc (.cells #[yI 0,yI 0,.string ⟨#[]⟩,.slice none 0 0] 52))
 clear hr hn hS hx ht hb hz
 go_enter Tryz.func23,Tryz.ntmps23
 go_upto_region 1 with (fail)
 have HX:=HX0
 have HZ:=HZ0
 have R1:=HR0
 rw[World.size_alloc] at HZ
 obtain⟨W,hW⟩:∃W,(w.alloc (.cells #[yI f,yI c,yI m,yI o,yI b,.string S] 25)).alloc (.cells #[yI 0,yI 0,.string ⟨#[]⟩,.slice none 0 0] 52)=W:=⟨_,rfl⟩
 obtain⟨gz,hgz⟩:∃g,w.heap.size+1=g:=⟨_,rfl⟩
 rw[hW] at HX HZ R1
 rw[hgz] at HZ
 have sz:w.heap.size≤gz:=by omega
 try rw[hW]
 try rw[hgz]
 obtain⟨gx,hgx⟩:∃g,w.heap.size=g:=⟨_,rfl⟩
 rw[hgx] at HX
 try rw[hgx]
 clear hW hgz hgx HX0 HZ0 HR0
 obtain⟨⟨x0,x1,x2,x3,x4,x5⟩,_⟩:=six_of HX.out
 obtain⟨⟨z0,z1,z2,z3⟩,⟨zf0,zf1,zf2,zf3⟩⟩:=HZ.out.four
 go_upto_region 3 with (go_at_call 34;(with_reducible refine(HB.out _ R1.out.self).mono ?_);rintro e w2 ⟨rfl,h2⟩;have R2:=yH (R1.out.trans h2.out);have HX2:=yH (HX.out.rel h2.out);have HZ2:=yH (HZ.out.rel h2.out);clear h2;clear x0 x1 x2 x3 x4 x5 z0 z1 z2 z3 zf0 zf1 zf2 zf3;obtain⟨⟨x0,x1,x2,x3,x4,x5⟩,_⟩:=six_of HX2.out;obtain⟨⟨z0,z1,z2,z3⟩,⟨zf0,zf1,zf2,zf3⟩⟩:=HZ2.out.four)
 have szl:gz<w2.heap.size:=HZ2.out.lt
 go_upto_region 4 with (go_at_call 35;(with_reducible refine(HP.out w2 R2.out.self).mono ?_);rintro e w3 ⟨k,n,X,A,l,q,rfl,hv,h3⟩;have R3:=yH (R2.out.trans h3.out);have HX3:=yH (HX2.out.rel h3.out);have HZ3:=yH (HZ2.out.rel h3.out);have HV:=yH hv.out;have s23:=h3.out.size;clear hv;clear h3;clear x0 x1 x2 x3 x4 x5 z0 z1 z2 z3 zf0 zf1 zf2 zf3;obtain⟨⟨x0,x1,x2,x3,x4,x5⟩,_⟩:=six_of HX3.out;obtain⟨⟨z0,z1,z2,z3⟩,⟨zf0,zf1,zf2,zf3⟩⟩:=HZ3.out.four)
 have HY:=yH (Bk.new w3 52 #[yI k,yI n,.string X,.slice A l q])
 have HZ4:=yH (HZ3.out.alloc (.cells #[yI k,yI n,.string X,.slice A l q] 52))
 have R4:=yH (R3.out.alloc (.cells #[yI k,yI n,.string X,.slice A l q] 52))
 have HV4:=yH (HV.out.rel (R3.out.self.alloc (.cells #[yI k,yI n,.string X,.slice A l q] 52)))
 have s34:w3.heap.size≤(w3.alloc (.cells #[yI k,yI n,.string X,.slice A l q] 52)).heap.size:=by rw[World.size_alloc];omega
 obtain⟨W4,hW4⟩:∃W,w3.alloc (.cells #[yI k,yI n,.string X,.slice A l q] 52)=W:=⟨_,rfl⟩
 obtain⟨gy,hgy⟩:∃g,w3.heap.size=g:=⟨_,rfl⟩
 rw[hW4] at HY HZ4 R4 HV4 s34
 rw[hgy] at HY
 try rw[hW4]
 try rw[hgy]
 have s24:w2.heap.size≤W4.heap.size:=Nat.le_trans s23 s34
 clear hW4 hgy s23 s34
 clear x0 x1 x2 x3 x4 x5 z0 z1 z2 z3 zf0 zf1 zf2 zf3
 obtain⟨⟨y0,y1,y2,y3⟩,_⟩:=HY.out.four
 have C5:=yH (HRr.out (.agg #[yI k,yI n,.string X,.slice A l q]) W4 HV4.out.at R4.out.self)
 go_upto_region 7 with (go_at_call 36;(with_reducible refine C5.out.mono ?_);rintro e w5 ⟨rfl,h5⟩;have R5:=yH (R4.out.trans h5.out);have HZ5:=yH (HZ4.out.rel h5.out);have HY5:=yH (HY.out.rel h5.out);have HV5:=yH (HV4.out.rel h5.out);have s25:=Nat.le_trans s24 h5.out.size;clear h5)
 clear y0 y1 y2 y3
 obtain⟨⟨y0,y1,y2,y3⟩,_⟩:=HY5.out.four
 obtain⟨⟨z0,z1,z2,z3⟩,⟨zf0,zf1,zf2,zf3⟩⟩:=HZ5.out.four
 clear s24
 go_wp2_with (fail)
 clear y0 y1 y2 y3
 obtain⟨⟨y0,y1,y2,y3⟩,_⟩:=(HZ5.out.put4 (yI 0) (yI 0) (.string ⟨#[]⟩) (.slice none 0 0)).four
 have RW:=R5.out.put4 sz (yI 0) (yI 0) (.string ⟨#[]⟩) (.slice none 0 0)
 refine bodyPost_ret (v:= .tuple #[.agg #[yI 0,yI 0,.string ⟨#[]⟩,.slice none 0 0],yI 1]) (by simp[results,Tryz.results23,go_sem,y0,y1,y2,y3];first|done|rfl) rfl ⟨rfl,yH RW⟩
theorem lstrat_yes(f c m o b:Int)(t:List UInt8)(S:ByteArray)(hS:B t=S)(ht:t.length≤9223372036854775807)(hn:numsOk (f,c,m,o,b,t)=true)(x:Ex)(hx:parseS t= .ok x)(hb:rightX x=true)(w:World)(hr:Rel w w):
  Calls Tryz.prog 23 #[.agg #[yI f,yI c,yI m,yI o,yI b,.string S]] w fun e w'=>∃(k n:Int)(X:ByteArray)(A:Option Addr)(l q:Nat),e= .returned (.tuple #[.agg #[yI k,yI n,.string X,.slice A l q],yI 0])∧Hid (XAt w' (XV k n X A l q) x)∧Hid (Rel w w'):=by
 have HB:=yH (fun(w:World)(hr:Rel w w)=>lbounded_any f c m o b t S w hr)
 rw[hn] at HB
 have hz:=parse_size hx
 have HP:=yH (fun(w:World)(hr:Rel w w)=>lparse_yes14 t S hS ht x hx w hr)
 have HRr:=yH (fun(v:Value)(w:World)(h:XAt w v x)(hr:Rel w w)=>lright14 hb hz w h hr)
 have HX0:=yH ((Bk.new w 25 #[yI f,yI c,yI m,yI o,yI b,.string S]).alloc (.cells #[yI 0,yI 0,.string ⟨#[]⟩,.slice none 0 0] 52))
 have HZ0:=yH (Bk.new (w.alloc (.cells #[yI f,yI c,yI m,yI o,yI b,.string S] 25)) 52 #[yI 0,yI 0,.string ⟨#[]⟩,.slice none 0 0])
 have HR0:=yH ((hr.alloc (.cells #[yI f,yI c,yI m,yI o,yI b,.string S] 25)).alloc (.cells #[yI 0,yI 0,.string ⟨#[]⟩,.slice none 0 0] 52))
 clear hr hn hS hx ht hb hz
 go_enter Tryz.func23,Tryz.ntmps23
 go_upto_region 1 with (fail)
 have HX:=HX0
 have HZ:=HZ0
 have R1:=HR0
 rw[World.size_alloc] at HZ
 obtain⟨W,hW⟩:∃W,(w.alloc (.cells #[yI f,yI c,yI m,yI o,yI b,.string S] 25)).alloc (.cells #[yI 0,yI 0,.string ⟨#[]⟩,.slice none 0 0] 52)=W:=⟨_,rfl⟩
 obtain⟨gz,hgz⟩:∃g,w.heap.size+1=g:=⟨_,rfl⟩
 rw[hW] at HX HZ R1
 rw[hgz] at HZ
 have sz:w.heap.size≤gz:=by omega
 try rw[hW]
 try rw[hgz]
 obtain⟨gx,hgx⟩:∃g,w.heap.size=g:=⟨_,rfl⟩
 rw[hgx] at HX
 try rw[hgx]
 clear hW hgz hgx HX0 HZ0 HR0
 obtain⟨⟨x0,x1,x2,x3,x4,x5⟩,_⟩:=six_of HX.out
 obtain⟨⟨z0,z1,z2,z3⟩,⟨zf0,zf1,zf2,zf3⟩⟩:=HZ.out.four
 go_upto_region 3 with (go_at_call 34;(with_reducible refine(HB.out _ R1.out.self).mono ?_);rintro e w2 ⟨rfl,h2⟩;have R2:=yH (R1.out.trans h2.out);have HX2:=yH (HX.out.rel h2.out);have HZ2:=yH (HZ.out.rel h2.out);clear h2;clear x0 x1 x2 x3 x4 x5 z0 z1 z2 z3 zf0 zf1 zf2 zf3;obtain⟨⟨x0,x1,x2,x3,x4,x5⟩,_⟩:=six_of HX2.out;obtain⟨⟨z0,z1,z2,z3⟩,⟨zf0,zf1,zf2,zf3⟩⟩:=HZ2.out.four)
 have szl:gz<w2.heap.size:=HZ2.out.lt
 go_upto_region 4 with (go_at_call 35;(with_reducible refine(HP.out w2 R2.out.self).mono ?_);rintro e w3 ⟨k,n,X,A,l,q,rfl,hv,h3⟩;have R3:=yH (R2.out.trans h3.out);have HX3:=yH (HX2.out.rel h3.out);have HZ3:=yH (HZ2.out.rel h3.out);have HV:=yH hv.out;have s23:=h3.out.size;clear hv;clear h3;clear x0 x1 x2 x3 x4 x5 z0 z1 z2 z3 zf0 zf1 zf2 zf3;obtain⟨⟨x0,x1,x2,x3,x4,x5⟩,_⟩:=six_of HX3.out;obtain⟨⟨z0,z1,z2,z3⟩,⟨zf0,zf1,zf2,zf3⟩⟩:=HZ3.out.four)
 have HY:=yH (Bk.new w3 52 #[yI k,yI n,.string X,.slice A l q])
 have HZ4:=yH (HZ3.out.alloc (.cells #[yI k,yI n,.string X,.slice A l q] 52))
 have R4:=yH (R3.out.alloc (.cells #[yI k,yI n,.string X,.slice A l q] 52))
 have HV4:=yH (HV.out.rel (R3.out.self.alloc (.cells #[yI k,yI n,.string X,.slice A l q] 52)))
 have s34:w3.heap.size≤(w3.alloc (.cells #[yI k,yI n,.string X,.slice A l q] 52)).heap.size:=by rw[World.size_alloc];omega
 obtain⟨W4,hW4⟩:∃W,w3.alloc (.cells #[yI k,yI n,.string X,.slice A l q] 52)=W:=⟨_,rfl⟩
 obtain⟨gy,hgy⟩:∃g,w3.heap.size=g:=⟨_,rfl⟩
 rw[hW4] at HY HZ4 R4 HV4 s34
 rw[hgy] at HY
 try rw[hW4]
 try rw[hgy]
 have s24:w2.heap.size≤W4.heap.size:=Nat.le_trans s23 s34
 clear hW4 hgy s23 s34
 clear x0 x1 x2 x3 x4 x5 z0 z1 z2 z3 zf0 zf1 zf2 zf3
 obtain⟨⟨y0,y1,y2,y3⟩,_⟩:=HY.out.four
 have C5:=yH (HRr.out (.agg #[yI k,yI n,.string X,.slice A l q]) W4 HV4.out.at R4.out.self)
 go_upto_region 8 with (go_at_call 36;(with_reducible refine C5.out.mono ?_);rintro e w5 ⟨rfl,h5⟩;have R5:=yH (R4.out.trans h5.out);have HZ5:=yH (HZ4.out.rel h5.out);have HY5:=yH (HY.out.rel h5.out);have HV5:=yH (HV4.out.rel h5.out);have s25:=Nat.le_trans s24 h5.out.size;clear h5)
 clear y0 y1 y2 y3
 obtain⟨⟨y0,y1,y2,y3⟩,_⟩:=HY5.out.four
 obtain⟨⟨z0,z1,z2,z3⟩,⟨zf0,zf1,zf2,zf3⟩⟩:=HZ5.out.four
 clear s24
 go_wp2_with (fail)
 clear y0 y1 y2 y3
 obtain⟨⟨y0,y1,y2,y3⟩,_⟩:=(HZ5.out.put4 (yI k) (yI n) (.string X) (.slice A l q)).four
 have RW:=R5.out.put4 sz (yI k) (yI n) (.string X) (.slice A l q)
 refine bodyPost_ret (v:= .tuple #[.agg #[yI k,yI n,.string X,.slice A l q],yI 0]) (by simp[results,Tryz.results23,go_sem,y0,y1,y2,y3];first|done|rfl) rfl ⟨_,_,_,_,_,_,rfl,yH ((HV5.out.put4 szl (by omega) _ _ _ _).at),yH RW⟩
theorem lstrat_any(c:Cf)(S:ByteArray)(hS:B (txC c)=S)(hf:CfFit c)(w:World)(hr:Rel w w):
  Calls Tryz.prog 23 #[.agg #[yI (flC c),yI (ceC c),yI (mpC c),yI (coC c),yI (bdC c),.string S]] w fun e w'=>∃(k n:Int)(X:ByteArray)(A:Option Addr)(l q:Nat),e= .returned (.tuple #[.agg #[yI k,yI n,.string X,.slice A l q],yI (checkC c)])∧Hid (∀x,checkC c=0→parseS (txC c)= .ok x→XAt w' (XV k n X A l q) x)∧Hid (Rel w w'):=by
 obtain⟨f,ce,m,o,b,t⟩:=c
 have ht:t.length≤9223372036854775807:=hf.2
 cases hn:numsOk (f,ce,m,o,b,t) with
 |false=>
  have hc:checkC (f,ce,m,o,b,t)=10:=by unfold checkC;rw[hn];rfl
  rw[hc]
  exact(lstrat_range f ce m o b t S hn w hr).mono fun e w' ⟨he,h2⟩=>⟨_,_,_,_,_,_,he,yH (fun x h=>absurd h (by decide)),h2⟩
 |true=>
  have hc:checkC (f,ce,m,o,b,t)=textE t:=by unfold checkC;rw[hn];rfl
  rw[hc]
  cases hx:parseS t with
  |error p=>
   obtain⟨cd,pl⟩:=p
   rw[textE_error hx]
   have hne:=((parse_spec t).2 cd pl hx).1
   have h0:(cd !=0)=true:=by simp;omega
   exact(lstrat_no f ce m o b t S hS ht hn cd pl h0 hx w hr).mono fun e w' ⟨he,h2⟩=>⟨_,_,_,_,_,_,he,yH (fun x h _=>absurd h (by omega)),h2⟩
  |ok x=>
   rw[textE_ok hx]
   cases hb:rightX x with
   |true=>
    refine(lstrat_yes f ce m o b t S hS ht hn x hx hb w hr).mono ?_
    rintro e w' ⟨k,n,X,A,l,q,he,hv,h2⟩
    exact⟨k,n,X,A,l,q,he,yH (fun y _ hy=>by
     injection hy with hy;subst hy;exact hv.out),h2⟩
   |false=>exact(lstrat_arg f ce m o b t S hS ht hn x hx hb w hr).mono fun e w' ⟨he,h2⟩=>⟨_,_,_,_,_,_,he,yH (fun y h _=>absurd h (by decide)),h2⟩
theorem lcheck_at{f c m o b:Int}{t:List UInt8}{S:ByteArray}{E:Int}(hS:B t=S)(hf:CfFit (f,c,m,o,b,t))(hE:checkC (f,c,m,o,b,t)=E)(w:World)(hr:Rel w w):
  Calls Tryz.prog 11 #[.agg #[yI f,yI c,yI m,yI o,yI b,.string S]] w fun e w'=>e= .returned (yI E)∧Hid (Rel w w'):=by
 have hK:=fun(w:World)(hr:Rel w w)=>lstrat_any (f,c,m,o,b,t) S hS hf w hr
 rw[hE] at hK
 have HK:=yH hK
 clear hK hE
 obtain⟨gx,hgx,W,hW,HX,R1⟩:=conf_box hr f c m o b S
 go_enter Tryz.func11,Tryz.ntmps11
 go_upto_region 1 with (fail)
 try rw[hW]
 try rw[hgx]
 clear hW hgx hr
 obtain⟨⟨x0,x1,x2,x3,x4,x5⟩,_⟩:=six_of HX.out
 go_upto_region 2 with (go_at_call 23;(with_reducible refine(HK.out _ R1.out.self).mono ?_);rintro e w2 ⟨k,n,X,A,l,q,rfl,_,h2⟩;have R2:=yH (R1.out.trans h2.out);clear h2)
 go_wp2_with (fail)
 go_ret
 exact⟨rfl,yH (R2.out.alloc _)⟩
theorem lcheck_any(c:Cf)(S:ByteArray)(hS:B (txC c)=S)(hf:CfFit c)(w:World)(hr:Rel w w):
  Calls Tryz.prog 11 #[.agg #[yI (flC c),yI (ceC c),yI (mpC c),yI (coC c),yI (bdC c),.string S]] w fun e w'=>e= .returned (yI (checkC c))∧Rel w w':=by
 obtain⟨f,ce,m,o,b,t⟩:=c
 exact(lcheck_at hS hf rfl w hr).mono fun e w' ⟨he,h2⟩=>⟨he,h2.out⟩
theorem llow_any(f c m o b:Int)(S:ByteArray)(w:World)(hr:Rel w w):
  Calls Tryz.prog 13 #[.agg #[yI f,yI c,yI m,yI o,yI b,.string S]] w fun e w'=>e= .returned (yI (max f m))∧Rel w w':=by
 by_cases h:f<m
 all_goals
  have HR:=yH hr
  go_enter Tryz.func13,Tryz.ntmps13
  go_wp2_with (fail)
  all_goals
   go_ret
   exact⟨ret_int (by omega),HR.out.alloc _⟩
theorem llow_at(f c m o b:Int)(S:ByteArray)(L:Int)(hL:max f m=L)(w:World)(hr:Rel w w):
  Calls Tryz.prog 13 #[.agg #[yI f,yI c,yI m,yI o,yI b,.string S]] w fun e w'=>e= .returned (yI L)∧Hid (Rel w w'):=by
 rw[←hL]
 exact(llow_any f c m o b S w hr).mono fun e w' ⟨he,h2⟩=>⟨he,yH h2⟩
theorem lwithin_no(f c m o b p E:Int)(t:List UInt8)(S:ByteArray)(hS:B t=S)(hf:CfFit (f,c,m,o,b,t))(hE:checkC (f,c,m,o,b,t)=E)(h0:(E==0)=false)(w:World)(hr:Rel w w):
  Calls Tryz.prog 15 #[.agg #[yI f,yI c,yI m,yI o,yI b,.string S],yI p] w fun e w'=>e= .returned (.bool false)∧Rel w w':=by
 have HC:=yH (fun(w:World)(hr:Rel w w)=>lcheck_at hS hf hE w hr)
 obtain⟨gx,hgx,W,hW,HX,R1⟩:=conf_box hr f c m o b S
 clear hS hf hE hr
 go_enter Tryz.func15,Tryz.ntmps15
 go_upto_region 1 with (fail)
 try rw[hW]
 try rw[hgx]
 clear hW hgx
 obtain⟨⟨x0,x1,x2,x3,x4,x5⟩,_⟩:=six_of HX.out
 go_wp2_with (go_at_call 11;(with_reducible refine(HC.out _ R1.out.self).mono ?_);rintro e w2 ⟨rfl,r2⟩;have R2:=yH (R1.out.trans r2.out);have P2:=yH r2.out;obtain⟨⟨x0,x1,x2,x3,x4,x5⟩,_⟩:=six_of (HX.out.rel r2.out);clear r2)
 go_ret
 exact⟨rfl,R2.out⟩
theorem lwithin_a(f c m o b p L:Int)(t:List UInt8)(S:ByteArray)(hS:B t=S)(hf:CfFit (f,c,m,o,b,t))(hE:checkC (f,c,m,o,b,t)=0)(hL:max f m=L)(h1:decide (L≤p)=false)(w:World)(hr:Rel w w):
  Calls Tryz.prog 15 #[.agg #[yI f,yI c,yI m,yI o,yI b,.string S],yI p] w fun e w'=>e= .returned (.bool false)∧Rel w w':=by
 have HC:=yH (fun(w:World)(hr:Rel w w)=>lcheck_at hS hf hE w hr)
 have HL:=yH (fun(w:World)(hr:Rel w w)=>llow_at f c m o b S L hL w hr)
 obtain⟨gx,hgx,W,hW,HX,R1⟩:=conf_box hr f c m o b S
 clear hS hf hE hr hL
 go_enter Tryz.func15,Tryz.ntmps15
 go_upto_region 1 with (fail)
 try rw[hW]
 try rw[hgx]
 clear hW hgx
 obtain⟨⟨x0,x1,x2,x3,x4,x5⟩,_⟩:=six_of HX.out
 go_wp2_with (first
  |(go_at_call 11;(with_reducible refine(HC.out _ R1.out.self).mono ?_);rintro e w2 ⟨rfl,r2⟩;have R2:=yH (R1.out.trans r2.out);have P2:=yH r2.out;obtain⟨⟨x0,x1,x2,x3,x4,x5⟩,_⟩:=six_of (HX.out.rel r2.out);clear r2)
  |(go_at_call 13;(with_reducible refine(HL.out _ R2.out.self).mono ?_);rintro e w3 ⟨rfl,r3⟩;have R3:=yH (R2.out.trans r3.out);obtain⟨⟨x0,x1,x2,x3,x4,x5⟩,_⟩:=six_of (HX.out.rel (P2.out.trans r3.out));clear r3))
 go_ret
 exact⟨rfl,R3.out⟩
theorem lwithin_b(f c m o b p L:Int)(t:List UInt8)(S:ByteArray)(hS:B t=S)(hf:CfFit (f,c,m,o,b,t))(hE:checkC (f,c,m,o,b,t)=0)(hL:max f m=L)(h1:decide (L≤p)=true)(h2:decide (p≤c)=true)(w:World)(hr:Rel w w):
  Calls Tryz.prog 15 #[.agg #[yI f,yI c,yI m,yI o,yI b,.string S],yI p] w fun e w'=>e= .returned (.bool true)∧Rel w w':=by
 have HC:=yH (fun(w:World)(hr:Rel w w)=>lcheck_at hS hf hE w hr)
 have HL:=yH (fun(w:World)(hr:Rel w w)=>llow_at f c m o b S L hL w hr)
 obtain⟨gx,hgx,W,hW,HX,R1⟩:=conf_box hr f c m o b S
 clear hS hf hE hr hL
 go_enter Tryz.func15,Tryz.ntmps15
 go_upto_region 1 with (fail)
 try rw[hW]
 try rw[hgx]
 clear hW hgx
 obtain⟨⟨x0,x1,x2,x3,x4,x5⟩,_⟩:=six_of HX.out
 go_wp2_with (first
  |(go_at_call 11;(with_reducible refine(HC.out _ R1.out.self).mono ?_);rintro e w2 ⟨rfl,r2⟩;have R2:=yH (R1.out.trans r2.out);have P2:=yH r2.out;obtain⟨⟨x0,x1,x2,x3,x4,x5⟩,_⟩:=six_of (HX.out.rel r2.out);clear r2)
  |(go_at_call 13;(with_reducible refine(HL.out _ R2.out.self).mono ?_);rintro e w3 ⟨rfl,r3⟩;have R3:=yH (R2.out.trans r3.out);obtain⟨⟨x0,x1,x2,x3,x4,x5⟩,_⟩:=six_of (HX.out.rel (P2.out.trans r3.out));clear r3))
 go_ret
 exact⟨rfl,R3.out⟩
theorem lwithin_c(f c m o b p L:Int)(t:List UInt8)(S:ByteArray)(hS:B t=S)(hf:CfFit (f,c,m,o,b,t))(hE:checkC (f,c,m,o,b,t)=0)(hL:max f m=L)(h1:decide (L≤p)=true)(h2:decide (p≤c)=false)(w:World)(hr:Rel w w):
  Calls Tryz.prog 15 #[.agg #[yI f,yI c,yI m,yI o,yI b,.string S],yI p] w fun e w'=>e= .returned (.bool false)∧Rel w w':=by
 have HC:=yH (fun(w:World)(hr:Rel w w)=>lcheck_at hS hf hE w hr)
 have HL:=yH (fun(w:World)(hr:Rel w w)=>llow_at f c m o b S L hL w hr)
 obtain⟨gx,hgx,W,hW,HX,R1⟩:=conf_box hr f c m o b S
 clear hS hf hE hr hL
 go_enter Tryz.func15,Tryz.ntmps15
 go_upto_region 1 with (fail)
 try rw[hW]
 try rw[hgx]
 clear hW hgx
 obtain⟨⟨x0,x1,x2,x3,x4,x5⟩,_⟩:=six_of HX.out
 go_wp2_with (first
  |(go_at_call 11;(with_reducible refine(HC.out _ R1.out.self).mono ?_);rintro e w2 ⟨rfl,r2⟩;have R2:=yH (R1.out.trans r2.out);have P2:=yH r2.out;obtain⟨⟨x0,x1,x2,x3,x4,x5⟩,_⟩:=six_of (HX.out.rel r2.out);clear r2)
  |(go_at_call 13;(with_reducible refine(HL.out _ R2.out.self).mono ?_);rintro e w3 ⟨rfl,r3⟩;have R3:=yH (R2.out.trans r3.out);obtain⟨⟨x0,x1,x2,x3,x4,x5⟩,_⟩:=six_of (HX.out.rel (P2.out.trans r3.out));clear r3))
 go_ret
 exact⟨rfl,R3.out⟩
theorem lwithin_any(c:Cf)(p:Int)(S:ByteArray)(hS:B (txC c)=S)(hf:CfFit c)(w:World)(hr:Rel w w):
  Calls Tryz.prog 15 #[.agg #[yI (flC c),yI (ceC c),yI (mpC c),yI (coC c),yI (bdC c),.string S],yI p] w fun e w'=>e= .returned (.bool (withinC c p))∧Rel w w':=by
 obtain⟨f,ce,m,o,b,t⟩:=c
 by_cases h0:checkC (f,ce,m,o,b,t)=0
 ·by_cases h1:max f m≤p
  ·by_cases h2:p≤ce
   ·have e:withinC (f,ce,m,o,b,t) p=true:=by
     unfold withinC lowC
     exact decide_eq_true ⟨h0,h1,h2⟩
    rw[e]
    exact lwithin_b f ce m o b p _ t S hS hf h0 rfl (decide_eq_true h1) (decide_eq_true h2) w hr
   ·have e:withinC (f,ce,m,o,b,t) p=false:=by
     unfold withinC lowC
     exact decide_eq_false fun h=>h2 h.2.2
    rw[e]
    exact lwithin_c f ce m o b p _ t S hS hf h0 rfl (decide_eq_true h1) (decide_eq_false h2) w hr
  ·have e:withinC (f,ce,m,o,b,t) p=false:=by
    unfold withinC lowC
    exact decide_eq_false fun h=>h1 h.2.1
   rw[e]
   exact lwithin_a f ce m o b p _ t S hS hf h0 rfl (decide_eq_false h1) w hr
 ·have e:withinC (f,ce,m,o,b,t) p=false:=by
   unfold withinC
   exact decide_eq_false fun h=>h0 h.1
  rw[e]
  exact lwithin_no f ce m o b p _ t S hS hf rfl (by simpa using h0) w hr
theorem ltells_f{x:Ex}(hb:rightX x=true)(hz:size x≤2001){os:List Of}{n e:Int}(hv:RV (evalS os x)= .tuple #[yI n,.bool false,yI e])(k n0:Int)(X:ByteArray)(A':Option Addr)(l q':Nat)(A:Option Addr)(q N:Nat)(hN:os.length=N)(w:World)(h:XAt w (XV k n0 X A' l q') x)(ho:OffArg w A q os)(hr:Rel w w):
  Calls Tryz.prog 28 #[.agg #[yI k,yI n0,.string X,.slice A' l q'],.slice A N q] w fun z w'=>z= .returned (.tuple #[yI n,.bool false])∧Hid (Rel w w'):=by
 have HX:=yH (Bk.new w 52 #[yI k,yI n0,.string X,.slice A' l q'])
 have R1:=yH (hr.alloc (.cells #[yI k,yI n0,.string X,.slice A' l q'] 52))
 have HV:=yH (h.rel R1.out)
 have HO:=yH (ho.rel R1.out)
 have HCo:=yH (fun(v:Value)(w:World)(h:XAt w v x)(hr:Rel w w)=>lcompile14 hb hz w h hr)
 have HRu:=yH (fun(A1:Option Addr)(m c:Nat)(hm:Hid (m=(cod x 0).length)) (w:World) (h:InsArg w A1 c (cod x 0)) (ho:OffArg w A q os) (hr:Rel w w)=>lrun14 hb hv A1 A c q m N hm hN w h ho hr)
 clear hb hz hv hN h ho hr
 go_enter Tryz.func28,Tryz.ntmps28
 go_upto_region 1 with (fail)
 obtain⟨gx,hgx⟩:∃g,w.heap.size=g:=⟨_,rfl⟩
 obtain⟨W,hW⟩:∃W,w.alloc (.cells #[yI k,yI n0,.string X,.slice A' l q'] 52)=W:=⟨_,rfl⟩
 rw[hW] at HX R1 HV HO
 rw[hgx] at HX
 try rw[hW]
 try rw[hgx]
 clear hW hgx
 obtain⟨⟨x0,x1,x2,x3⟩,_⟩:=HX.out.four
 go_upto_region 4 with (go_at_call 45;(with_reducible refine(HCo.out (XV k n0 X A' l q') W HV.out R1.out.self).mono ?_);rintro e1 w2 ⟨A1,m,c1,rfl,hm,hi,h2⟩;have R2:=yH (R1.out.trans h2.out);have HO2:=yH (HO.out.rel h2.out);have HI2:=yH hi.out;have HM:=yH hm;clear h2 hi hm)
 have C3:=yH (HRu.out A1 m c1 HM.out w2 HI2.out HO2.out R2.out.self)
 go_upto_region 5 with (go_at_call 46;(with_reducible refine C3.out.mono ?_);rintro e1 w3 ⟨rfl,h3⟩;have R3:=yH (R2.out.trans h3.out);clear h3)
 go_wp2_with (fail)
 go_ret2
 exact⟨rfl,yH R3.out⟩
theorem ltells_t{x:Ex}(hb:rightX x=true)(hz:size x≤2001){os:List Of}{n e:Int}(hv:RV (evalS os x)= .tuple #[yI n,.bool true,yI e])(r:Bool)(hr0:(e==0)=r)(k n0:Int)(X:ByteArray)(A':Option Addr)(l q':Nat)(A:Option Addr)(q N:Nat)(hN:os.length=N)(w:World)(h:XAt w (XV k n0 X A' l q') x)(ho:OffArg w A q os)(hr:Rel w w):
  Calls Tryz.prog 28 #[.agg #[yI k,yI n0,.string X,.slice A' l q'],.slice A N q] w fun z w'=>z= .returned (.tuple #[yI n,.bool r])∧Hid (Rel w w'):=by
 have HX:=yH (Bk.new w 52 #[yI k,yI n0,.string X,.slice A' l q'])
 have R1:=yH (hr.alloc (.cells #[yI k,yI n0,.string X,.slice A' l q'] 52))
 have HV:=yH (h.rel R1.out)
 have HO:=yH (ho.rel R1.out)
 have HCo:=yH (fun(v:Value)(w:World)(h:XAt w v x)(hr:Rel w w)=>lcompile14 hb hz w h hr)
 have HRu:=yH (fun(A1:Option Addr)(m c:Nat)(hm:Hid (m=(cod x 0).length)) (w:World) (h:InsArg w A1 c (cod x 0)) (ho:OffArg w A q os) (hr:Rel w w)=>lrun14 hb hv A1 A c q m N hm hN w h ho hr)
 clear hb hz hv hN h ho hr
 go_enter Tryz.func28,Tryz.ntmps28
 go_upto_region 1 with (fail)
 obtain⟨gx,hgx⟩:∃g,w.heap.size=g:=⟨_,rfl⟩
 obtain⟨W,hW⟩:∃W,w.alloc (.cells #[yI k,yI n0,.string X,.slice A' l q'] 52)=W:=⟨_,rfl⟩
 rw[hW] at HX R1 HV HO
 rw[hgx] at HX
 try rw[hW]
 try rw[hgx]
 clear hW hgx
 obtain⟨⟨x0,x1,x2,x3⟩,_⟩:=HX.out.four
 go_upto_region 4 with (go_at_call 45;(with_reducible refine(HCo.out (XV k n0 X A' l q') W HV.out R1.out.self).mono ?_);rintro e1 w2 ⟨A1,m,c1,rfl,hm,hi,h2⟩;have R2:=yH (R1.out.trans h2.out);have HO2:=yH (HO.out.rel h2.out);have HI2:=yH hi.out;have HM:=yH hm;clear h2 hi hm)
 have C3:=yH (HRu.out A1 m c1 HM.out w2 HI2.out HO2.out R2.out.self)
 go_upto_region 5 with (go_at_call 46;(with_reducible refine C3.out.mono ?_);rintro e1 w3 ⟨rfl,h3⟩;have R3:=yH (R2.out.trans h3.out);clear h3)
 go_wp2_with (fail)
 go_ret2
 exact⟨rfl,yH R3.out⟩
theorem ltarget_no(f c m o b:Int)(t:List UInt8)(S:ByteArray)(hS:B t=S)(hf:CfFit (f,c,m,o,b,t))(E:Int)(hE:checkC (f,c,m,o,b,t)=E)(h0:(E !=0)=true)(os:List Of)(A:Option Addr)(q N:Nat)(hN:os.length=N)(w:World)(hr:Rel w w)(ho:OffArg w A q os):
  Calls Tryz.prog 18 #[.agg #[yI f,yI c,yI m,yI o,yI b,.string S],.slice A N q] w fun e w'=>e= .returned (.tuple #[yI 0,.bool false])∧Rel w w':=by
 have hK:=fun(w:World)(hr:Rel w w)=>lstrat_any (f,c,m,o,b,t) S hS hf w hr
 rw[hE] at hK
 have HK:=yH hK
 have HO:=yH ho
 clear hK
 obtain⟨gx,hgx,W,hW,HX,R1⟩:=conf_box hr f c m o b S
 go_enter Tryz.func18,Tryz.ntmps18
 go_upto_region 1 with (fail)
 try rw[hW]
 try rw[hgx]
 clear hW hgx hr hS hf hE ho hN
 obtain⟨⟨x0,x1,x2,x3,x4,x5⟩,_⟩:=six_of HX.out
 go_upto_region 2 with (go_at_call 23;(with_reducible refine(HK.out _ R1.out.self).mono ?_);rintro e1 w2 ⟨k,n',X,A',l,q',rfl,hv,h2⟩;have R2:=yH (R1.out.trans h2.out);have HX2:=yH (HX.out.rel h2.out);have HV:=yH hv.out;clear h2 hv)
 go_wp2_with (fail)
 go_ret2
 exact⟨rfl,R2.out.alloc _⟩
theorem ltarget_nf(f c m o b:Int)(t:List UInt8)(S:ByteArray)(hS:B t=S)(hf:CfFit (f,c,m,o,b,t))(hE:checkC (f,c,m,o,b,t)=0)(x:Ex)(hx:parseS t= .ok x)(hb:rightX x=true)(os:List Of)(n e:Int)(hv:RV (evalS os x)= .tuple #[yI n,.bool false,yI e])(A:Option Addr)(q N:Nat)(hN:os.length=N)(w:World)(hr:Rel w w)(ho:OffArg w A q os):
  Calls Tryz.prog 18 #[.agg #[yI f,yI c,yI m,yI o,yI b,.string S],.slice A N q] w fun e w'=>e= .returned (.tuple #[yI 0,.bool false])∧Rel w w':=by
 have hK:=fun(w:World)(hr:Rel w w)=>lstrat_any (f,c,m,o,b,t) S hS hf w hr
 rw[hE] at hK
 have HK:=yH hK
 have HO:=yH ho
 clear hK
 have hz:=parse_size hx
 have HPx:=yH hx
 have HT:=yH (fun(k n0:Int)(X:ByteArray)(A':Option Addr)(l q':Nat)(w:World)(h:XAt w (XV k n0 X A' l q') x) (ho:OffArg w A q os) (hr:Rel w w)=>ltells_f hb hz hv k n0 X A' l q' A q N hN w h ho hr)
 obtain⟨gx,hgx,W,hW,HX,R1⟩:=conf_box hr f c m o b S
 go_enter Tryz.func18,Tryz.ntmps18
 go_upto_region 1 with (fail)
 try rw[hW]
 try rw[hgx]
 clear hW hgx hr hS hf hE ho hN hx hz hb hv
 obtain⟨⟨x0,x1,x2,x3,x4,x5⟩,_⟩:=six_of HX.out
 go_upto_region 2 with (go_at_call 23;(with_reducible refine(HK.out _ R1.out.self).mono ?_);rintro e1 w2 ⟨k,n',X,A',l,q',rfl,hv,h2⟩;have R2:=yH (R1.out.trans h2.out);have HX2:=yH (HX.out.rel h2.out);have HV:=yH hv.out;clear h2 hv)
 have HV2:=yH (HV.out x (by simp) HPx.out)
 clear HV x0 x1 x2 x3 x4 x5
 have HY:=yH (Bk.new w2 52 #[yI k,yI n',.string X,.slice A' l q'])
 have HX3:=yH (HX2.out.alloc (.cells #[yI k,yI n',.string X,.slice A' l q'] 52))
 have R3:=yH (R2.out.alloc (.cells #[yI k,yI n',.string X,.slice A' l q'] 52))
 have HV3:=yH (HV2.out.rel (R2.out.self.alloc (.cells #[yI k,yI n',.string X,.slice A' l q'] 52)))
 obtain⟨gy,hgy⟩:∃g,w2.heap.size=g:=⟨_,rfl⟩
 obtain⟨V,hV⟩:∃W,w2.alloc (.cells #[yI k,yI n',.string X,.slice A' l q'] 52)=W:=⟨_,rfl⟩
 rw[hV] at HY R3 HV3 HX3
 rw[hgy] at HY
 try rw[hV]
 try rw[hgy]
 clear hV hgy
 obtain⟨⟨y0,y1,y2,y3⟩,_⟩:=HY.out.four
 have C4:=yH (HT.out k n' X A' l q' V HV3.out (HO.out.rel R3.out) R3.out.self)
 go_upto_region 6 with (go_at_call 28;(with_reducible refine C4.out.mono ?_);rintro e1 w4 ⟨rfl,h4⟩;have R4:=yH (R3.out.trans h4.out);have HX4:=yH (HX3.out.rel h4.out);clear h4)
 go_wp2_with (fail)
 go_ret2
 exact⟨rfl,R4.out⟩
theorem ltarget_nt(f c m o b:Int)(t:List UInt8)(S:ByteArray)(hS:B t=S)(hf:CfFit (f,c,m,o,b,t))(hE:checkC (f,c,m,o,b,t)=0)(x:Ex)(hx:parseS t= .ok x)(hb:rightX x=true)(os:List Of)(n e:Int)(hv:RV (evalS os x)= .tuple #[yI n,.bool true,yI e])(he:(e==0)=false)(A:Option Addr)(q N:Nat)(hN:os.length=N)(w:World)(hr:Rel w w)(ho:OffArg w A q os):
  Calls Tryz.prog 18 #[.agg #[yI f,yI c,yI m,yI o,yI b,.string S],.slice A N q] w fun e w'=>e= .returned (.tuple #[yI 0,.bool false])∧Rel w w':=by
 have hK:=fun(w:World)(hr:Rel w w)=>lstrat_any (f,c,m,o,b,t) S hS hf w hr
 rw[hE] at hK
 have HK:=yH hK
 have HO:=yH ho
 clear hK
 have hz:=parse_size hx
 have HPx:=yH hx
 have HT:=yH (fun(k n0:Int)(X:ByteArray)(A':Option Addr)(l q':Nat)(w:World)(h:XAt w (XV k n0 X A' l q') x) (ho:OffArg w A q os) (hr:Rel w w)=>ltells_t hb hz hv false he k n0 X A' l q' A q N hN w h ho hr)
 obtain⟨gx,hgx,W,hW,HX,R1⟩:=conf_box hr f c m o b S
 go_enter Tryz.func18,Tryz.ntmps18
 go_upto_region 1 with (fail)
 try rw[hW]
 try rw[hgx]
 clear hW hgx hr hS hf hE ho hN hx hz hb hv he
 obtain⟨⟨x0,x1,x2,x3,x4,x5⟩,_⟩:=six_of HX.out
 go_upto_region 2 with (go_at_call 23;(with_reducible refine(HK.out _ R1.out.self).mono ?_);rintro e1 w2 ⟨k,n',X,A',l,q',rfl,hv,h2⟩;have R2:=yH (R1.out.trans h2.out);have HX2:=yH (HX.out.rel h2.out);have HV:=yH hv.out;clear h2 hv)
 have HV2:=yH (HV.out x (by simp) HPx.out)
 clear HV x0 x1 x2 x3 x4 x5
 have HY:=yH (Bk.new w2 52 #[yI k,yI n',.string X,.slice A' l q'])
 have HX3:=yH (HX2.out.alloc (.cells #[yI k,yI n',.string X,.slice A' l q'] 52))
 have R3:=yH (R2.out.alloc (.cells #[yI k,yI n',.string X,.slice A' l q'] 52))
 have HV3:=yH (HV2.out.rel (R2.out.self.alloc (.cells #[yI k,yI n',.string X,.slice A' l q'] 52)))
 obtain⟨gy,hgy⟩:∃g,w2.heap.size=g:=⟨_,rfl⟩
 obtain⟨V,hV⟩:∃W,w2.alloc (.cells #[yI k,yI n',.string X,.slice A' l q'] 52)=W:=⟨_,rfl⟩
 rw[hV] at HY R3 HV3 HX3
 rw[hgy] at HY
 try rw[hV]
 try rw[hgy]
 clear hV hgy
 obtain⟨⟨y0,y1,y2,y3⟩,_⟩:=HY.out.four
 have C4:=yH (HT.out k n' X A' l q' V HV3.out (HO.out.rel R3.out) R3.out.self)
 go_upto_region 6 with (go_at_call 28;(with_reducible refine C4.out.mono ?_);rintro e1 w4 ⟨rfl,h4⟩;have R4:=yH (R3.out.trans h4.out);have HX4:=yH (HX3.out.rel h4.out);clear h4)
 go_wp2_with (fail)
 go_ret2
 exact⟨rfl,R4.out⟩
theorem ltarget_some(f c m o b:Int)(t:List UInt8)(S:ByteArray)(hS:B t=S)(hf:CfFit (f,c,m,o,b,t))(hE:checkC (f,c,m,o,b,t)=0)(x:Ex)(hx:parseS t= .ok x)(hb:rightX x=true)(os:List Of)(n L r:Int)(hv:RV (evalS os x)= .tuple #[yI n,.bool true,yI 0])(hL:max f m=L)(hr2:clampC n L c=r)(A:Option Addr)(q N:Nat)(hN:os.length=N)(w:World)(hr:Rel w w)(ho:OffArg w A q os):
  Calls Tryz.prog 18 #[.agg #[yI f,yI c,yI m,yI o,yI b,.string S],.slice A N q] w fun e w'=>e= .returned (.tuple #[yI r,.bool true])∧Rel w w':=by
 have hK:=fun(w:World)(hr:Rel w w)=>lstrat_any (f,c,m,o,b,t) S hS hf w hr
 rw[hE] at hK
 have HK:=yH hK
 have HO:=yH ho
 clear hK
 have hz:=parse_size hx
 have HPx:=yH hx
 have HT:=yH (fun(k n0:Int)(X:ByteArray)(A':Option Addr)(l q':Nat)(w:World)(h:XAt w (XV k n0 X A' l q') x) (ho:OffArg w A q os) (hr:Rel w w)=>ltells_t hb hz hv true rfl k n0 X A' l q' A q N hN w h ho hr)
 have HLw:=yH (fun(w:World)(hr:Rel w w)=>llow_at f c m o b S L hL w hr)
 have HCl:=yH (fun(w:World)=>lclamp14_as n L c r (yH hr2) w)
 obtain⟨gx,hgx,W,hW,HX,R1⟩:=conf_box hr f c m o b S
 go_enter Tryz.func18,Tryz.ntmps18
 go_upto_region 1 with (fail)
 try rw[hW]
 try rw[hgx]
 clear hW hgx hr hS hf hE ho hN hx hz hb hv hL hr2
 obtain⟨⟨x0,x1,x2,x3,x4,x5⟩,_⟩:=six_of HX.out
 go_upto_region 2 with (go_at_call 23;(with_reducible refine(HK.out _ R1.out.self).mono ?_);rintro e1 w2 ⟨k,n',X,A',l,q',rfl,hv,h2⟩;have R2:=yH (R1.out.trans h2.out);have HX2:=yH (HX.out.rel h2.out);have HV:=yH hv.out;clear h2 hv)
 have HV2:=yH (HV.out x (by simp) HPx.out)
 clear HV x0 x1 x2 x3 x4 x5
 have HY:=yH (Bk.new w2 52 #[yI k,yI n',.string X,.slice A' l q'])
 have HX3:=yH (HX2.out.alloc (.cells #[yI k,yI n',.string X,.slice A' l q'] 52))
 have R3:=yH (R2.out.alloc (.cells #[yI k,yI n',.string X,.slice A' l q'] 52))
 have HV3:=yH (HV2.out.rel (R2.out.self.alloc (.cells #[yI k,yI n',.string X,.slice A' l q'] 52)))
 obtain⟨gy,hgy⟩:∃g,w2.heap.size=g:=⟨_,rfl⟩
 obtain⟨V,hV⟩:∃W,w2.alloc (.cells #[yI k,yI n',.string X,.slice A' l q'] 52)=W:=⟨_,rfl⟩
 rw[hV] at HY R3 HV3 HX3
 rw[hgy] at HY
 try rw[hV]
 try rw[hgy]
 clear hV hgy
 obtain⟨⟨y0,y1,y2,y3⟩,_⟩:=HY.out.four
 have C4:=yH (HT.out k n' X A' l q' V HV3.out (HO.out.rel R3.out) R3.out.self)
 go_upto_region 7 with (go_at_call 28;(with_reducible refine C4.out.mono ?_);rintro e1 w4 ⟨rfl,h4⟩;have R4:=yH (R3.out.trans h4.out);have HX4:=yH (HX3.out.rel h4.out);clear h4)
 obtain⟨⟨x0,x1,x2,x3,x4,x5⟩,_⟩:=six_of HX4.out
 have Z5:=yH (R4.out.self.drew)
 go_region_held3 (fun w'=>w'.cell? ⟨gx,0,none⟩=some (yI f)∧w'.cell? ⟨gx,1,none⟩=some (yI c)∧w'.cell? ⟨gx,2,none⟩=some (yI m)∧w'.cell? ⟨gx,3,none⟩=some (yI o)∧w'.cell? ⟨gx,4,none⟩=some (yI b)∧w'.cell? ⟨gx,5,none⟩=some (.string S))
  (first|exact(six_of (HX4.out.rel (R4.out.self.drew.trans rL.out))).1|exact⟨x0,x1,x2,x3,x4,x5⟩|go_keep)
  (first
   |(go_at_call 13;(with_reducible refine(HLw.out _ R4.out.drew.self).mono ?_);rintro e wL ⟨rfl,rL⟩;have RL:=yH (R4.out.drew.trans rL.out))
   |(go_at_call 29;(with_reducible refine(HCl.out _).mono ?_);rintro e wC ⟨rfl,rfl⟩))
 all_goals
  go_wp2_with (fail)
  go_ret2
  exact⟨rfl,RL.out⟩
theorem ltarget_any(c:Cf)(S:ByteArray)(hS:B (txC c)=S)(hf:CfFit c)(os:List Of)(A:Option Addr)(q N:Nat)(hN:os.length=N)(w:World)(hr:Rel w w)(ho:OffArg w A q os):
  Calls Tryz.prog 18 #[.agg #[yI (flC c),yI (ceC c),yI (mpC c),yI (coC c),yI (bdC c),.string S],.slice A N q] w fun e w'=>e= .returned (.tuple #[yI (targN c os),.bool (targI c os)])∧Rel w w':=by
 obtain⟨f,ce,m,o,b,t⟩:=c
 by_cases h0:checkC (f,ce,m,o,b,t)=0
 ·obtain⟨hn,ht⟩:=check_zero.1 h0
  obtain⟨x,hx,hrx⟩:=textE_zero.1 ht
  have ht2:=target_of hn ht os
  rcases rv_cases os x with ⟨n,he,hv⟩|⟨n,e,d,hv,hd,hno⟩
  ·have h1:tellT t os=some n:=by unfold tellT;rw[hx];simp only[he]
   have h2:targetC (f,ce,m,o,b,t) os=some (clampC n (max f m) ce):=by rw[ht2];show Option.map _ (tellT t os)=_;rw[h1];rfl
   have h3:targN (f,ce,m,o,b,t) os=clampC n (max f m) ce:=by unfold targN;rw[h2];rfl
   have h4:targI (f,ce,m,o,b,t) os=true:=by unfold targI;rw[h2];rfl
   rw[h4]
   exact ltarget_some f ce m o b t S hS hf h0 x hx hrx os n _ _ hv rfl h3.symm A q N hN w hr ho
  ·have h1:tellT t os=none:=by
    unfold tellT;rw[hx]
    cases he:evalS os x with
    |error e=>simp only[he]
    |ok y=>
     cases y with
     |none=>simp only[he]
     |some z=>exact absurd he (hno z)
   have h2:targetC (f,ce,m,o,b,t) os=none:=by rw[ht2];show Option.map _ (tellT t os)=_;rw[h1];rfl
   have h3:targN (f,ce,m,o,b,t) os=0:=by unfold targN;rw[h2];rfl
   have h4:targI (f,ce,m,o,b,t) os=false:=by unfold targI;rw[h2];rfl
   rw[h3,h4]
   cases d with
   |false=>exact ltarget_nf f ce m o b t S hS hf h0 x hx hrx os n e hv A q N hN w hr ho
   |true=>exact ltarget_nt f ce m o b t S hS hf h0 x hx hrx os n e hv (by simpa using hd) A q N hN w hr ho
 ·have h2:targetC (f,ce,m,o,b,t) os=none:=by unfold targetC;rw[if_neg h0]
  have h3:targN (f,ce,m,o,b,t) os=0:=by unfold targN;rw[h2];rfl
  have h4:targI (f,ce,m,o,b,t) os=false:=by unfold targI;rw[h2];rfl
  rw[h3,h4]
  exact ltarget_no f ce m o b t S hS hf _ rfl (by simpa using h0) os A q N hN w hr ho
theorem llowc_any:CLowOk:=by
 intro c S hS hf w hr
 obtain⟨f,ce,m,o,b,t⟩:=c
 exact llow_any f ce m o b S w hr
theorem confProOk:ConfOk:=⟨fun c S hS hf w hr=>lcheck_any c S hS hf w hr,llowc_any,fun c p S hS hf hp w hr=>lwithin_any c p S hS hf w hr,fun c S hS hf os A q N hN w hr ho=>ltarget_any c S hS hf os A q N hN w hr ho⟩
end Go.Proofs.YtfekhbeaphpelaaGreatDoor
