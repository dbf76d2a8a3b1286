/- The landed operation's fits. -/

import Derived.Test.YtfekhbeaphpelaaGreatDoorY20
set_option maxRecDepth 100000
set_option maxHeartbeats 8000000
set_option linter.unusedVariables false
set_option linter.unusedSimpArgs false
namespace Go.Proofs.YtfekhbeaphpelaaGreatDoor
open Go.RowKit Go.Lib
theorem fits_name(Wd:ByteArray)(M o n a z:Int)(nm:List UInt8)(hz:nm.length≤9223372036854775807)(w0 w:World)(hr:Rel w0 w):
  Calls Tryz.prog 115 #[.agg #[.string Wd,yI 3,yI M],.agg #[yI o,yI n,.string (B nm)],yI a,yI z] w fun r w'=>r= .returned (.bool (decide (n=0)&&isName nm))∧Rel w0 w':=by
 have hA:=yH ((hr.alloc (.cells #[.string Wd,yI 3,yI M] 166)).alloc (.cells #[yI o,yI n,.string (B nm)] 140))
 have HT:=B_toList nm
 by_cases h:n=0
 ·subst h
  go_enter Tryz.func115,Tryz.ntmps115
  go_wp2_with (go_at_call 113;(with_reducible refine(lname_list nm hz w0 _ hA.out).mono ?_);rintro e w1 ⟨rfl,h1⟩)
  go_ret
  exact⟨ret_bool (by simp),h1⟩
 ·have k1:(n==0)=false:=by simpa using h
  go_enter Tryz.func115,Tryz.ntmps115
  go_wp2_with (fail)
  go_ret
  exact⟨ret_bool (by simp[h]),hA.out⟩
theorem fits_place(Wd:ByteArray)(M o n a z:Int)(nm:List UInt8)(hz:nm.length≤9223372036854775807)(w0 w:World)(hr:Rel w0 w):
  Calls Tryz.prog 115 #[.agg #[.string Wd,yI 2,yI M],.agg #[yI o,yI n,.string (B nm)],yI a,yI z] w fun r w'=>r= .returned (.bool (decide (a<n)&&decide (n≤z)&&decide (nm=[])))∧Rel w0 w':=by
 have hA:=yH ((hr.alloc (.cells #[.string Wd,yI 2,yI M] 166)).alloc (.cells #[yI o,yI n,.string (B nm)] 140))
 have HT:=B_toList nm
 by_cases h1:a<n
 ·have d1:decide (a<n)=true:=decide_eq_true h1
  by_cases h2:n≤z
  ·have d2:decide (n≤z)=true:=decide_eq_true h2
   cases nm with
   |nil=>
    have e0:B []=⟨#[]⟩:=rfl
    go_enter Tryz.func115,Tryz.ntmps115
    go_wp2_with (fail)
    go_ret
    exact⟨ret_bool (by simp[d1,d2]),hA.out⟩
   |cons ch tl=>
    have s2:(ch::tl==[])=false:=rfl
    go_enter Tryz.func115,Tryz.ntmps115
    go_wp2_with (fail)
    go_ret
    exact⟨ret_bool (by simp[d1,d2]),hA.out⟩
  ·have d2:decide (n≤z)=false:=decide_eq_false h2
   go_enter Tryz.func115,Tryz.ntmps115
   go_wp2_with (fail)
   go_ret
   exact⟨ret_bool (by simp[d1,d2]),hA.out⟩
 ·have d1:decide (a<n)=false:=decide_eq_false h1
  go_enter Tryz.func115,Tryz.ntmps115
  go_wp2_with (fail)
  go_ret
  exact⟨ret_bool (by simp[d1]),hA.out⟩
theorem fits_num(Wd:ByteArray)(H M o n a z:Int)(nm:List UInt8)(hz:nm.length≤9223372036854775807)(h2':(H==2)=false)(h3':(H==3)=false)(w0 w:World)(hr:Rel w0 w):
  Calls Tryz.prog 115 #[.agg #[.string Wd,yI H,yI M],.agg #[yI o,yI n,.string (B nm)],yI a,yI z] w fun r w'=>r= .returned (.bool (decide (0≤n)&&decide (n≤M)&&decide (nm=[])))∧Rel w0 w':=by
 have hA:=yH ((hr.alloc (.cells #[.string Wd,yI H,yI M] 166)).alloc (.cells #[yI o,yI n,.string (B nm)] 140))
 have HT:=B_toList nm
 by_cases h1:0≤n
 ·have d1:decide (0≤n)=true:=decide_eq_true h1
  by_cases h2:n≤M
  ·have d2:decide (n≤M)=true:=decide_eq_true h2
   cases nm with
   |nil=>
    have e0:B []=⟨#[]⟩:=rfl
    go_enter Tryz.func115,Tryz.ntmps115
    go_wp2_with (fail)
    go_ret
    exact⟨ret_bool (by simp[d1,d2]),hA.out⟩
   |cons ch tl=>
    have s2:(ch::tl==[])=false:=rfl
    go_enter Tryz.func115,Tryz.ntmps115
    go_wp2_with (fail)
    go_ret
    exact⟨ret_bool (by simp[d1,d2]),hA.out⟩
  ·have d2:decide (n≤M)=false:=decide_eq_false h2
   go_enter Tryz.func115,Tryz.ntmps115
   go_wp2_with (fail)
   go_ret
   exact⟨ret_bool (by simp[d1,d2]),hA.out⟩
 ·have d1:decide (0≤n)=false:=decide_eq_false h1
  go_enter Tryz.func115,Tryz.ntmps115
  go_wp2_with (fail)
  go_ret
  exact⟨ret_bool (by simp[d1]),hA.out⟩
abbrev noOp:Value:= .agg #[.string ⟨#[]⟩,yI 0,yI 0]
theorem ops_none{o:Int}(h: ¬(1≤o∧o≤13)):look opsL o=none:=by
 unfold opsL
 simp only[look_cons]
 repeat rw[if_neg (by omega)]
 rfl
theorem ops_ways(o:Int): ¬(1≤o∧o≤13)∨o=1∨o=2∨o=3∨o=4∨o=5∨o=6∨o=7∨o=8∨o=9∨o=10∨o=11∨o=12∨o=13:=by omega
def FitsOp(o:Int)(Wd:ByteArray)(H M:Int):Prop:=∀(n:Int)(i len:Nat)(nm:List UInt8),nm.length≤9223372036854775807→∀w0 w,Rel w0 w→
  Calls Tryz.prog 115 #[.agg #[.string Wd,yI H,yI M],.agg #[yI o,yI n,.string (B nm)],yI (i:Int),yI (len:Int)] w fun r w'=>r= .returned (.bool (inOk len i (o,n,nm)))∧Rel w0 w'
theorem fits_num_op(Wd:ByteArray)(H M o:Int)(h2:(H==2)=false)(h3:(H==3)=false)(ho:1≤o∧o≤13)(h4:o≠4)(ht:isTo o=false)(hm:∀len,mostO len o=M):FitsOp o Wd H M:=fun n i len nm hz w0 w hr=>
 bool_at _ (fits_num Wd H M o n i len nm hz h2 h3 w0 w hr) (yH (by
  rw[inOk_eq,hm,if_neg h4,decide_eq_true ho,Bool.true_and]
  have:leastO i o=0:=by unfold leastO;rw[ht];rfl
  rw[this,Bool.decide_and]))
theorem fits_place_op(Wd:ByteArray)(M o:Int)(ho:o=9∨o=12∨o=13):FitsOp o Wd 2 M:=fun n i len nm hz w0 w hr=>
 bool_at _ (fits_place Wd M o n i len nm hz w0 w hr) (yH (by
  obtain⟨q1,q2⟩:=to_is ho i len
  rw[inOk_eq,q1,q2,if_neg (by omega),decide_eq_true (by omega:1≤o∧o≤13),Bool.true_and,Bool.decide_and]
  rw[show decide ((i:Int)+1≤n)=decide ((i:Int)<n) from by rw[decide_eq_decide];omega]))
theorem fits_name_op(Wd:ByteArray)(M:Int):FitsOp 4 Wd 3 M:=fun n i len nm hz w0 w hr=>
 bool_at _ (fits_name Wd M 4 n i len nm hz w0 w hr) (yH (by
  rw[inOk_eq,if_pos rfl]
  have e1:leastO i 4=0:=rfl
  have e2:mostO len 4=0:=rfl
  rw[e1,e2,decide_eq_true (by omega:(1:Int)≤4∧(4:Int)≤13),Bool.true_and]
  congr 1
  rw[decide_eq_decide];omega))
theorem ops_fits(o:Int):∃(Wd:ByteArray)(H M:Int)(b:Bool),(look opsL o).getD noOp= .agg #[.string Wd,yI H,yI M]∧(look opsL o).isSome=b∧(b=false→∀len i n nm,inOk len i (o,n,nm)=false)∧(b=true→FitsOp o Wd H M):=by
 rcases ops_ways o with h|rfl|rfl|rfl|rfl|rfl|rfl|rfl|rfl|rfl|rfl|rfl|rfl|rfl
 ·refine⟨⟨#[]⟩,0,0,false,by rw[ops_none h];rfl,by rw[ops_none h];rfl,fun _ len i n nm=> ?_,fun h=>by cases h⟩
  rw[inOk_eq,decide_eq_false h];rfl
 ·exact⟨_,_,_,true,rfl,rfl,(fun h=>by cases h),fun _=>fits_num_op _ _ _ _ rfl rfl (by decide) (by decide) rfl (fun _=>rfl)⟩
 ·exact⟨_,_,_,true,rfl,rfl,(fun h=>by cases h),fun _=>fits_num_op _ _ _ _ rfl rfl (by decide) (by decide) rfl (fun _=>rfl)⟩
 ·exact⟨_,_,_,true,rfl,rfl,(fun h=>by cases h),fun _=>fits_num_op _ _ _ _ rfl rfl (by decide) (by decide) rfl (fun _=>rfl)⟩
 ·exact⟨_,_,_,true,rfl,rfl,(fun h=>by cases h),fun _=>fits_name_op _ _⟩
 ·exact⟨_,_,_,true,rfl,rfl,(fun h=>by cases h),fun _=>fits_num_op _ _ _ _ rfl rfl (by decide) (by decide) rfl (fun _=>rfl)⟩
 ·exact⟨_,_,_,true,rfl,rfl,(fun h=>by cases h),fun _=>fits_num_op _ _ _ _ rfl rfl (by decide) (by decide) rfl (fun _=>rfl)⟩
 ·exact⟨_,_,_,true,rfl,rfl,(fun h=>by cases h),fun _=>fits_num_op _ _ _ _ rfl rfl (by decide) (by decide) rfl (fun _=>rfl)⟩
 ·exact⟨_,_,_,true,rfl,rfl,(fun h=>by cases h),fun _=>fits_num_op _ _ _ _ rfl rfl (by decide) (by decide) rfl (fun _=>rfl)⟩
 ·exact⟨_,_,_,true,rfl,rfl,(fun h=>by cases h),fun _=>fits_place_op _ _ _ (by decide)⟩
 ·exact⟨_,_,_,true,rfl,rfl,(fun h=>by cases h),fun _=>fits_num_op _ _ _ _ rfl rfl (by decide) (by decide) rfl (fun _=>rfl)⟩
 ·exact⟨_,_,_,true,rfl,rfl,(fun h=>by cases h),fun _=>fits_num_op _ _ _ _ rfl rfl (by decide) (by decide) rfl (fun _=>rfl)⟩
 ·exact⟨_,_,_,true,rfl,rfl,(fun h=>by cases h),fun _=>fits_place_op _ _ _ (by decide)⟩
 ·exact⟨_,_,_,true,rfl,rfl,(fun h=>by cases h),fun _=>fits_place_op _ _ _ (by decide)⟩
theorem ops_run_ok{w:World}{q:Nat}(h:MapIs w q opsL)(o:Int)(ho:i64 o){v:Value}{b:Bool}(hv:(look opsL o).getD noOp=v)(hb:(look opsL o).isSome=b):
  (Instr.lookup 163 (.map (some q)) (yI o) true).run Tryz.prog w= .ok (.tuple #[v,.bool b]) w:=by
 subst hv hb
 exact h.look_ok _ _ Tryz.underlying163 _ (by kernel_rfl) o (WalkArith.wf_i64 ho)
theorem cright_any:CRightOk:=fun A c l w0 w hr h=>by
 have HR:=yH hr
 have HS:=yH hr.self
 have HA:=yH h.2.2.2
 have HF:=yH h.2.2.1
 have hl:l.length≤9223372036854775807:=by have:=h.1;have:=h.2.1;unfold maxLen at this;omega
 clear h hr
 by_cases h5:5000<l.length
 ·have HB:=yH (code_many h5)
  have t1:decide ((5000:Int)<(l.length:Int))=true:=decide_eq_true (by omega)
  go_enter Tryz.func87,Tryz.ntmps87
  go_wp2_with (fail)
  go_ret
  exact⟨ret_bool HB.out.symm,HR.out⟩
 have t1:decide ((5000:Int)<(l.length:Int))=false:=decide_eq_false (by omega)
 go_enter Tryz.func87,Tryz.ntmps87
 go_wp2_with (go_at_call 114;(with_reducible refine(operations_any w _ HS.out).mono ?_);rintro e w1 ⟨q,rfl,hq,m1,r1,_⟩)
 have HM:=yH m1
 have HR1:=yH r1
 clear m1 r1
 go_loopw [14] (fun i wr=>∃j:Nat,j≤l.length∧i=yI (j:Int)∧Hid (okTo l j=true)∧Rel w1 wr) (fun i _=>l.length-(RowKit.intOf i).toNat)
 case atStart=>exact⟨0,by omega,rfl,yH rfl,HR1.out.self⟩
 case round=>
  obtain⟨i,hi,rfl,HN,hRw⟩:=hrel
  have HRw:=yH hRw
  by_cases hlt:i<l.length
  ·obtain⟨g,off,o,n,nm,rfl,c0,c1,c2,ho⟩:=ins_at HA.out (HR1.out.trans hRw) i hlt
   have hfo:=HF.out _ (List.getElem_mem hlt)
   rw[ho] at hfo
   obtain⟨hof,_,hs⟩:=hfo
   have HO:=yH ho
   obtain⟨Wd,H,M,b,hv,hb,hno,hyes⟩:=ops_fits o
   have lk:=ops_run_ok (((HM.out.rel hRw).alloc (.cells #[yI o,yI n,.string (B nm)] 140))) o hof hv hb
   have HX:=yH ((Bk.new wr 140 #[yI o,yI n,.string (B nm)]))
   have HX2:=yH ((Bk.new wr 140 #[yI o,yI n,.string (B nm)]).alloc (.cells #[.string Wd,yI H,yI M] 166))
   have HY:=yH (Bk.new (wr.alloc (.cells #[yI o,yI n,.string (B nm)] 140)) 166 #[.string Wd,yI H,yI M])
   have HRa:=yH ((hRw.alloc (.cells #[yI o,yI n,.string (B nm)] 140)).alloc (.cells #[.string Wd,yI H,yI M] 166))
   obtain⟨⟨x0,x1,x2⟩,_⟩:=three_of HX.out
   obtain⟨⟨y0,y1,y2⟩,_⟩:=three_of HX2.out
   obtain⟨⟨z0,z1,z2⟩,_⟩:=three_of HY.out
   rw[World.size_alloc] at z0 z1 z2
   clear ho hRw
   cases b with
   |false=>
    have HE:=yH (hno rfl l.length i n nm)
    clear hno hyes
    go_wp2_with (fail)
    go_ret
    exact⟨ret_bool (code_bad hlt HO.out HE.out).symm,HR.out.trans (HR1.out.trans HRa.out)⟩
   |true=>
    obtain⟨bv,hbv⟩:∃bv,inOk l.length i (o,n,nm)=bv:=⟨_,rfl⟩
    have HC:=yH (hyes rfl n i l.length nm hs w1 _ HRa.out)
    rw[hbv] at HC
    have HE:=yH hbv
    clear hno hyes hbv
    cases bv with
    |false=>
     go_wp2_with (go_at_call 115;(with_reducible refine HC.out.mono ?_);rintro e w2 ⟨rfl,r2⟩)
     go_ret
     exact⟨ret_bool (code_bad hlt HO.out HE.out).symm,HR.out.trans (HR1.out.trans r2)⟩
    |true=>
     go_wp2_with (go_at_call 115;(with_reducible refine HC.out.mono ?_);rintro e w2 ⟨rfl,r2⟩)
     go_roundw
     case rel=>exact⟨i+1,by omega,by go_num,yH (okTo_step hlt HO.out HN.out HE.out),r2⟩
     case measure=>simp[RowKit.intOf];omega
  ·obtain rfl:i=l.length:=by omega
   have HB:=yH (code_full (by omega) HN.out)
   clear hRw
   go_wp2_with (fail)
   go_ret
   exact⟨ret_bool HB.out.symm,HR.out.trans (HR1.out.trans HRw.out)⟩
abbrev TV(o:Option Int):Value:= .agg #[yI (o.getD 0),.bool o.isSome]
abbrev FLV:Ending:= .panicked [{v:= .iface 31 (yI 10),recovered:=false}]
def TPost(w0:World)(r:Rs)(e:Ending)(w':World):Prop:=match r with
 | .ok o=>e= .returned (TV o)∧Rel w0 w'
 | .error _=>e=FLV∧Rel w0 w'
theorem vamount_any(n:Int)(w0 w:World)(hr:Rel w0 w):
  Calls Tryz.prog 142 #[yI n] w fun e w'=>e= .returned (.agg #[yI n,.bool true])∧Rel w0 w':=by
 have HR:=yH hr
 have hz:=hr.size
 clear hr
 go_enter Tryz.func142,Tryz.ntmps142
 go_wp2_with (fail)
 exact bodyPost_ret (v:=TV (some n)) (by simp[results,Tryz.results142,go_sem]) rfl ⟨rfl,by first|exact HR.out.alloc _|exact((HR.out.alloc _).setCell hz _).setCell hz _⟩
theorem up_pair{l:List Int}(h:l.Pairwise (fun a b=>decide (a≤b)=true)):Up l:=by
 induction h with
 |nil=>trivial
 |cons h _ ih=>exact⟨fun b hb=>of_decide_eq_true (h b hb),ih⟩
theorem srt_self{l:List Int}(h:Up l):srt l=l:=by
 induction l with
 |nil=>rfl
 |cons a t ih=>rw[srt,ih h.2];cases t with
  |nil=>rfl
  |cons b t=>unfold ins;rw[if_pos (h.1 b (List.mem_cons_self ..))]
theorem merge_srt(l:List Int):(l.mergeSort fun x y=>decide (x≤y))=srt l:=by
 have h1:(l.mergeSort fun x y=>decide (x≤y)).Perm l:=List.mergeSort_perm ..
 have h2:Up (l.mergeSort fun x y=>decide (x≤y)):=up_pair (List.pairwise_mergeSort (by intro a b c h1 h2;simp only[decide_eq_true_eq] at*;omega) (by intro a b;simp only[Bool.or_eq_true,decide_eq_true_eq];omega) l)
 rw[←srt_perm h1,srt_self h2]
def NumOwn(w:World)(base:Nat)(v:Value)(xs:List Int):Prop:=w.ownsRow base 3 1 v xs.length (xs.map (Value.int .i64))
theorem NumOwn.nil(w:World)(base:Nat):NumOwn w base (.slice none 0 0) []:=World.ownsRow_nil _ _ _ _
theorem NumOwn.rel{w w':World}{base:Nat}{v:Value}{xs:List Int}(h:NumOwn w base v xs)(hr:Rel w w'):NumOwn w' base v xs:=own_rel h hr
theorem NumOwn.more{w1:World}{base g cap:Nat}{xs:List Int}{n:Int}
  (h:w1.ownsRow base 3 1 (.slice (some ⟨g,0,none⟩) (xs.length+1) cap) (xs.length+1) (xs.map (Value.int .i64)++[yI n])):NumOwn w1 base (.slice (some ⟨g,0,none⟩) (xs.length+1) cap) (xs++[n]):=by
 unfold NumOwn
 rw[List.length_append,List.map_append];exact h
theorem num_info:(Tryz.prog.info? 3).map (fun i=>(i.zero,i.size,i.bytes))=some (some (yI 0),1,8):=by kernel_rfl
theorem num_one(n:Int):∀u∈[Value.int .i64 n],u.oneCell'=true:=by
 intro u hu
 simp only[List.mem_cons,List.not_mem_nil,or_false] at hu
 subst hu;rfl
theorem NumOwn.some9{w:World}{base n c:Nat}{A:Option Addr}{xs:List Int}(h:NumOwn w base (.slice A n c) xs)(hn:n=xs.length)(h0:xs≠[]):∃g,A=some ⟨g,0,none⟩∧base≤g∧g<w.heap.size∧Sort.Holds (Value.int .i64) w g 0 xs.toArray:=by
 have h:w.ownsRow base 3 1 (.slice A n c) xs.length (xs.map (Value.int .i64)):=h
 rcases h.2 with ⟨_,h1⟩|⟨g,cap,cur,hv,hb,hh,_⟩
 ·exact absurd (List.length_eq_zero_iff.1 h1) h0
 ·have hA:A=some ⟨g,0,none⟩:=by injection hv
  subst hA
  have hc:=h.cells (g:=g) rfl
  refine⟨g,rfl,hb,Bk.lt (t:=3) hh,fun j hj=>⟨?_,Bk.frozen (t:=3) hh _⟩⟩
  have hj':j<xs.length:=by simpa using hj
  have:=hc j (yI xs[j]) (by rw[List.getElem?_map,List.getElem?_eq_getElem hj'];rfl)
  rw[addr_at] at this
  rw[this]
  simp[hj']
theorem sorted_row{w0 w:World}{g n:Nat}{xs:List Int}(os:Array Obj)(hr:Rel w0 w)(hg:w0.heap.size≤g)(hgl:g<w.heap.size)(hh:Sort.Holds (Value.int .i64) w g 0 xs.toArray):
  Rel w0 (Sort.grow (Sort.putRow (Value.int .i64) (Sort.ahead w n) g 0 (xs.mergeSort fun x y=>decide (x≤y)).toArray) os)∧
  ∀j v,(srt xs)[j]?=some v→(Sort.grow (Sort.putRow (Value.int .i64) (Sort.ahead w n) g 0 (xs.mergeSort fun x y=>decide (x≤y)).toArray) os).cell? ⟨g,j,none⟩=some (yI v):=by
 rw[merge_srt]
 have hh':Sort.Holds (Value.int .i64) (Sort.ahead w n) g 0 xs.toArray:=hh
 have hs:(srt xs).toArray.size=xs.toArray.size:=by simp[srt_len]
 have hp:=Sort.holds_putRow _ _ _ _ _ (srt xs).toArray hh' hs
 have hz:(Sort.putRow (Value.int .i64) (Sort.ahead w n) g 0 (srt xs).toArray).heap.size=w.heap.size:=Sort.size_putRow ..
 have hq:=Sort.holds_grow (Value.int .i64) _ os g 0 _ (by rw[hz];exact hgl) hp
 refine⟨?_,fun j v hv=> ?_⟩
 ·have h1:Rel w0 (Sort.putRow (Value.int .i64) (Sort.ahead w n) g 0 (srt xs).toArray):=by
   refine⟨hr.1,⟨hr.2.os,hr.2.tape,hr.2.output,by rw[hz];exact hr.2.size,fun k hk=> ?_⟩⟩
   have:k≠g:=by omega
   refine Eq.trans ?_ (hr.2.block k hk)
   show(w.heap.modify g _)[k]?=w.heap[k]?
   rw[Array.getElem?_modify,if_neg (Ne.symm this)]
  exact h1.grow os
 ·have hl:j<(srt xs).length:=(List.getElem?_eq_some_iff.1 hv).1
  have:=(hq j (by simpa using hl)).1
  rw[Nat.zero_add] at this
  rw[this]
  obtain⟨_,e⟩:=List.getElem?_eq_some_iff.1 hv
  subst e
  simp[hl]
theorem off_box(w:World)(s:ByteArray)(p:Int):Bk (w.alloc (.cells #[.string s,yI p] 46)) w.heap.size 46 #[.string s,yI p]:=Bk.new w _ _
theorem vfrom_any(nm:List UInt8)(A:Option Addr)(c:Nat)(os:List Of)(w0 w:World)(hr:Rel w0 w)(ho:OffArg w A c os):
  Calls Tryz.prog 112 #[.slice A os.length c,.string (B nm)] w fun e w'=>e= .returned (TV (fromO os nm))∧Rel w0 w':=by
 have HR:=yH hr
 have hz:=hr.size
 have HT:=yH (Bk.new w 160 #[yI 0,.bool false])
 have HA:=yH (hr.self.alloc (.cells #[yI 0,.bool false] 160))
 have HOf:=yH ho.2.2.2
 have hl:os.length≤9223372036854775807:=by have:=ho.1;have:=ho.2.1;unfold maxLen at this;omega
 obtain⟨W,hW⟩:∃W,w.alloc (.cells #[yI 0,.bool false] 160)=W:=⟨_,rfl⟩
 rw[hW] at HT HA
 obtain⟨X,hX⟩:∃X,B nm=X:=⟨_,rfl⟩
 have HX:=yH hX
 rw[hX]
 clear ho hX hr
 go_enter Tryz.func112,Tryz.ntmps112
 go_wp2_with (fail)
 go_loopw [9] (fun i wr=>∃j:Nat,j≤os.length∧i=yI (j:Int)∧Hid (∀k (hk:k<os.length),k<j→os[k].1≠nm)∧Rel W wr) (fun i _=>os.length-(RowKit.intOf i).toNat)
 case atStart=>exact⟨0,by omega,rfl,yH (fun k _ hk=>absurd hk (by omega)),HA.out.right2⟩
 case round=>
  obtain⟨i,hi,rfl,HN,hRw⟩:=hrel
  have HRw:=yH hRw
  by_cases hlt:i<os.length
  ·obtain⟨g,off,s,p,rfl,c0,c1,ho⟩:=offs_at HOf.out (HA.out.trans hRw) i hlt
   obtain⟨Y,hY⟩:∃Y,B s=Y:=⟨_,rfl⟩
   have HO:=yH ho
   rw[hY] at c0
   have HY:=yH hY
   have HBx:=yH (off_box wr Y p)
   have HAx:=yH (hRw.self.alloc (.cells #[.string Y,yI p] 46))
   obtain⟨V,hV⟩:∃V,wr.alloc (.cells #[.string Y,yI p] 46)=V:=⟨_,rfl⟩
   rw[hV] at HBx HAx
   obtain⟨⟨x0,x1⟩,_⟩:=HBx.out.two
   clear ho hY hRw
   by_cases he:Y=X
   ·have k1:=list_of.2 he
    have HV:=yH (show fromO os nm=some p by
     have h1:os[i].1=nm:=by rw[HO.out];show s=nm;rw[←B_list s,←B_list nm,HY.out,HX.out,he]
     rw[from_hit hlt h1 HN.out,HO.out])
    clear he
    go_wp2_with (go_at_call 142;(with_reducible refine(vamount_any p _ _ HAx.out.self).mono ?_);rintro e w3 ⟨rfl,h3⟩;have R3:=yH h3;obtain⟨⟨d0,d1⟩,e0,e1⟩:=(HT.out.rel ((HRw.out.trans HAx.out).trans h3)).two)
    rw[HV.out]
    exact bodyPost_ret (v:=TV (some p)) (by simp[results,Tryz.results112,go_sem,d0,d1]) rfl ⟨rfl,((((HR.out.trans HA.out).trans (HRw.out.trans HAx.out)).trans R3.out).setCell hz _).setCell hz _⟩
   ·have k1:=list_ne he
    have HN2:Hid (∀k (hk:k<os.length),k<i+1→os[k].1≠nm):=yH (fun k hk hki=>by
     by_cases e:k=i
     ·subst e
      rw[HO.out]
      show s≠nm
      intro e;subst e;exact he (HY.out.symm.trans HX.out)
     ·exact HN.out k hk (by omega))
    clear he
    go_wp2_with (fail)
    go_roundw
    case rel=>exact⟨i+1,by omega,by go_num,HN2,HRw.out.trans HAx.out⟩
    case measure=>simp[RowKit.intOf];omega
  ·obtain rfl:i=os.length:=by omega
   have HV:=yH (show fromO os nm=none from from_none fun k hk=>HN.out k hk hk)
   obtain⟨⟨d0,d1⟩,e0,e1⟩:=(HT.out.rel hRw).two
   go_wp2_with (fail)
   rw[HV.out]
   exact bodyPost_ret (v:=TV none) (by simp[results,Tryz.results112,go_sem,d0,d1]) rfl ⟨rfl,(((HR.out.trans HA.out).trans HRw.out).setCell hz _).setCell hz _⟩
theorem num_new(w:World)(n:Int):∀j u,[Value.int .i64 n][j]?=some u→(w.alloc (.cells #[yI n] 3)).cell? ((⟨w.heap.size,0,none⟩:Addr).add j)=some u:=World.news_of_block (Bk.new w 3 #[yI n])
theorem NumOwn.slice{w:World}{base:Nat}{v:Value}{xs:List Int}(h:NumOwn w base v xs):∃A c,v= .slice A xs.length c:=by
 have h:w.ownsRow base 3 1 v xs.length (xs.map (Value.int .i64)):=h
 obtain⟨A,c,e,_⟩:=own_slice h
 exact⟨A,c,e⟩
theorem prices_take(os:List Of)(i:Nat)(h:i<os.length):prices (os.take (i+1))=prices (os.take i)++[os[i].2]:=by
 unfold prices
 rw[List.take_succ_eq_append_getElem h,List.map_append];rfl
theorem prices_tlen(os:List Of)(i:Nat)(h:i≤os.length):(prices (os.take i)).length=i:=by
 unfold prices;rw[List.length_map,List.length_take];omega
theorem vranked_any(n:Nat)(hn:n≤100)(A:Option Addr)(c:Nat)(os:List Of)(h8:os.length≤8)(w0 w:World)(hr:Rel w0 w)(ho:OffArg w A c os):
  Calls Tryz.prog 184 #[.slice A os.length c,yI (n:Int)] w fun e w'=>e= .returned (TV (rk os n))∧Rel w0 w':=by
 have HR:=yH hr
 have hz:=hr.size
 obtain⟨i0,hi0,hz0,hz1,hz2⟩:=info_parts num_info
 have HT:=yH (Bk.new w 160 #[yI 0,.bool false])
 have HA:=yH (hr.self.alloc (.cells #[yI 0,.bool false] 160))
 have HOf:=yH ho.2.2.2
 have hsz:w.heap.size≤(w.alloc (.cells #[yI 0,.bool false] 160)).heap.size:=by rw[World.size_alloc];omega
 obtain⟨W,hW⟩:∃W,w.alloc (.cells #[yI 0,.bool false] 160)=W:=⟨_,rfl⟩
 rw[hW] at HT HA hsz
 obtain⟨⟨d0,d1⟩,e0,e1⟩:=HT.out.two
 clear ho hr
 by_cases hge:os.length≤n
 ·have HV:=yH (show rk os n=none by unfold rk;rw[List.getElem?_eq_none];rw[srt_len,prices_len];exact hge)
  have t1:decide ((os.length:Int)≤(n:Int))=true:=decide_eq_true (by omega)
  go_enter Tryz.func184,Tryz.ntmps184
  rw[HV.out]
  go_wp2_with (fail)
  exact bodyPost_ret (v:=TV none) (by simp[results,Tryz.results184,go_sem,d0,d1]) rfl ⟨rfl,((HR.out.trans HA.out).setCell hz _).setCell hz _⟩
 ·have t1:decide ((os.length:Int)≤(n:Int))=false:=decide_eq_false (by omega)
  have hlt0:n<os.length:=by omega
  obtain⟨v,hv⟩:∃v,rk os n=some v:=by
   have:n<(srt (prices os)).length:=by rw[srt_len,prices_len];exact hlt0
   exact⟨_,List.getElem?_eq_getElem this⟩
  have HV:=yH hv
  have hN:(n:Int)<(os.length:Int):=by omega
  clear hv d0 d1 e0 e1
  go_enter Tryz.func184,Tryz.ntmps184
  rw[HV.out]
  go_wp2_with (fail)
  go_loopw [5,15] (fun ps i wr=>∃j:Nat,j≤os.length∧i=yI (j:Int)∧NumOwn wr W.heap.size ps (prices (os.take j))∧Rel W wr) (fun _ i _=>os.length-(RowKit.intOf i).toNat)
  case atStart=>exact⟨0,by omega,rfl,NumOwn.nil _ _,HA.out.right2⟩
  case round=>
   obtain⟨i,hi,rfl,hown,hRw⟩:=hrel
   have HRw:=yH hRw
   by_cases hlt:i<os.length
   ·obtain⟨A2,c2,rfl⟩:=hown.slice
    obtain⟨g,off,s,p,rfl,c0,c1,ho⟩:=offs_at HOf.out (HA.out.trans hRw) i hlt
    obtain⟨Y,hY⟩:∃Y,B s=Y:=⟨_,rfl⟩
    rw[hY] at c0
    have HP:=yH (show prices (os.take (i+1))=prices (os.take i)++[p] by rw[prices_take os i hlt,ho])
    have hpl:=prices_tlen os i hi
    have HBx:=yH (off_box wr Y p)
    have HAx:=yH (hRw.self.alloc (.cells #[.string Y,yI p] 46))
    obtain⟨V,hV⟩:∃V,wr.alloc (.cells #[.string Y,yI p] 46)=V:=⟨_,rfl⟩
    rw[hV] at HBx HAx
    obtain⟨⟨x0,x1⟩,_⟩:=HBx.out.two
    have HOV:=yH (hown.rel HAx.out)
    generalize prices (os.take i)=ps at*
    have hb:W.heap.size≤V.heap.size:=(hRw.trans HAx.out).size
    have HL:=yH hpl
    have hps:ps.length≤8:=by omega
    clear ho hY hRw hown hpl
    go_wp2_with (at_builtin;(refine wpList_append_lies _ rfl _ _ 23 rfl W.heap.size 3 i0 (yI 0) 1 8 Tryz.underlying23 hi0 hz0 hz1 hz2 rfl (by decide) _ ps.length (ps.map (Value.int .i64)) rfl ((show V.ownsRow W.heap.size 3 1 (.slice A2 ps.length c2) ps.length (ps.map (Value.int .i64)) from HOV.out).alloc _) ⟨V.heap.size,0,none⟩ 1 1 [yI p] rfl rfl (num_new V p) (num_one p) (by decide) (by unfold maxLen;omega) (by omega) (by simp;omega) _ rfl ?_);intro g1 cap w1 hown1 hgrow hat hlt1)
    have R1:Rel W w1:=((HRw.out.trans HAx.out).alloc _).grown hgrow (fun k hk=>((show V.ownsRow W.heap.size 3 1 (.slice A2 ps.length c2) ps.length (ps.map (Value.int .i64)) from HOV.out).lt k hk).1)
    have HO1:=yH (NumOwn.more hown1)
    have HL2:=yH (show ps.length+1=i+1 by rw[HL.out])
    go_roundw
    case rel=>exact⟨i+1,by omega,by go_num,by rw[HP.out];exact HO1.out,R1⟩
    case measure=>simp[RowKit.intOf];omega
   ·obtain rfl:i=os.length:=by omega
    rw[List.take_length] at hown
    obtain⟨A2,c2,rfl⟩:=hown.slice
    have HOwn:=yH hown
    have hpl:=prices_len os
    have hv2:=HV.out
    unfold rk at hv2
    have hne:prices os≠[]:=fun e=>by rw[e] at hpl;simp at hpl;omega
    obtain⟨g,rfl,hb,hgl,hh⟩:=NumOwn.some9 HOwn.out rfl hne
    have HSt:=yH (fun(os':Array Obj)(m:Nat)=>sorted_row (n:=m) os' hRw hb hgl hh)
    have HSort:=yH (Tryz.slices_Sort_int g 0 c2 (prices os) wr hh hgl (by rw[hpl];omega))
    have HV2:=yH hv2
    have hN2:n<(prices os).length:=by omega
    have hN3:(n:Int)<((prices os).length:Int):=by omega
    clear hv2 hh hRw HOwn hown hpl hne
    go_wp2_with (first
     |(go_at_call 199;(with_reducible refine HSort.out.mono ?_);rintro e w1 ⟨rfl,m,os',rfl⟩;have R1:=yH (HSt.out os' m).1;have cv:=(HSt.out os' m).2 n v HV2.out;obtain⟨w1,hw1⟩:∃w1,Sort.grow (Sort.putRow (Value.int .i64) (Sort.ahead wr m) g 0 ((prices os).mergeSort fun x y=>decide (x≤y)).toArray) os'=w1:=⟨_,rfl⟩;rw[hw1] at R1 cv⊢;clear hw1)
     |(go_at_call 142;(with_reducible refine(vamount_any v _ _ R1.out.self).mono ?_);rintro e w3 ⟨rfl,h3⟩;have R3:=yH h3;obtain⟨⟨d0,d1⟩,e0,e1⟩:=(HT.out.rel (R1.out.trans h3)).two))
    exact bodyPost_ret (v:=TV (some v)) (by simp[results,Tryz.results184,go_sem,d0,d1]) rfl ⟨rfl,((((HR.out.trans HA.out).trans R1.out).trans R3.out).setCell hz _).setCell hz _⟩
theorem tp_ok{f:FuncId}{args:Array Value}{w w0:World}{r:Rs}{o:Option Int}{V:Int}{b:Bool}(h:Calls Tryz.prog f args w (TPost w0 r))(hr:r= .ok o)(hV:o.getD 0=V)(hb:o.isSome=b):Calls Tryz.prog f args w fun e w'=>e= .returned (.agg #[yI V,.bool b])∧Rel w0 w':=by subst hr;subst hV;subst hb;exact h
theorem tp_no{f:FuncId}{args:Array Value}{w w0:World}{r:Rs}{er:Int}(h:Calls Tryz.prog f args w (TPost w0 r))(hr:r= .error er):Calls Tryz.prog f args w fun e w'=>e=FLV∧Rel w0 w':=by subst hr;exact h
def SB(w w':World)(ty:TypeId)(xs:Array Value):Prop:=Rel w w'∧Bk w' w.heap.size ty xs∧∃a b,Bk w' (w.heap.size+1) 160 #[a,b]
theorem SB.rel{w w' w2:World}{ty:TypeId}{xs:Array Value}(h:SB w w' ty xs)(hr:Rel w' w2):SB w w2 ty xs:=by
 obtain⟨h1,h2,a,b,h3⟩:=h
 exact⟨h1.trans hr,h2.rel hr,a,b,h3.rel hr⟩
theorem SB.new{w:World}(hr:Rel w w)(ty:TypeId)(xs:Array Value):SB w ((w.alloc (.cells xs ty)).alloc (.cells #[yI 0,.bool false] 160)) ty xs:=
 ⟨(hr.alloc _).alloc _,(Bk.new w ty xs).alloc _,_,_,Bk.snd w xs #[yI 0,.bool false] ty 160⟩
theorem SB.r{w w':World}{ty:TypeId}{xs:Array Value}(h:SB w w' ty xs):Rel w w':=h.1
theorem SB.self{w w':World}{ty:TypeId}{xs:Array Value}(h:SB w w' ty xs):Rel w' w':=h.1.self
theorem SB.put{w w':World}{ty:TypeId}{xs:Array Value}(h:SB w w' ty xs)(a b:Value):SB w ((w'.setCell ⟨w.heap.size+1,0,none⟩ a).setCell ⟨w.heap.size+1,1,none⟩ b) ty xs:=by
 obtain⟨h1,h2,u,v,h3⟩:=h
 refine⟨(h1.setCell (Nat.le_succ _) a).setCell (Nat.le_succ _) b,(h2.far (Nat.ne_of_lt (Nat.lt_succ_self _)) a).far (Nat.ne_of_lt (Nat.lt_succ_self _)) b,a,b, ?_⟩
 exact(h3.set_ 0 a).set_ 1 b
theorem pex1(n:Int)(nm:List UInt8)(A1:Option Addr)(c1:Nat)(ov:Value)(w0 w:World)(hr:Rel w0 w)(V:Int)(b:Bool)(hb:∀w',Rel w w'→Calls Tryz.prog 184 #[ov,yI 0] w' fun z w2=>z= .returned (.agg #[yI V,.bool b])∧Rel w' w2):
  Calls Tryz.prog 176 #[ov,.agg #[yI 1,yI n,.string (B nm),.slice A1 0 c1]] w fun z w'=>z= .returned (.agg #[yI V,.bool b])∧Rel w0 w':=by
 have HR:=yH hr
 have Hhb:=yH hb
 have HS:=yH (SB.new hr.self 52 #[yI 1,yI n,.string (B nm),.slice A1 0 c1])
 obtain⟨W,hW⟩:∃W,(w.alloc (.cells #[yI 1,yI n,.string (B nm),.slice A1 0 c1] 52)).alloc (.cells #[yI 0,.bool false] 160)=W:=⟨_,rfl⟩
 rw[hW] at HS
 have hS9:=HS.out
 obtain⟨⟨b0,b1,b2,b3⟩,_⟩:=hS9.2.1.four
 clear hr hS9 hb
 go_enter Tryz.func176,Tryz.ntmps176
 go_wp2_with (go_at_call 184;(with_reducible refine(Hhb.out _ HS.out.r).mono ?_);rintro e w1 ⟨rfl,h1⟩;have HS1:=yH (HS.out.rel h1);have hS9:=HS1.out;obtain⟨a9,b9,hb9⟩:=hS9.2.2;obtain⟨⟨d0,d1⟩,e0,e1⟩:=hb9.two;clear hS9 hb9)
 exact bodyPost_ret (v:= .agg #[yI V,.bool b]) (by simp[results,Tryz.results176,go_sem,d0,d1]) rfl ⟨rfl,HR.out.trans (HS1.out.put _ _).1⟩
theorem pex2(n:Int)(nm:List UInt8)(A1:Option Addr)(c1:Nat)(ov:Value)(w0 w:World)(hr:Rel w0 w)(V:Int)(b:Bool)(hb:∀w',Rel w w'→Calls Tryz.prog 184 #[ov,yI 1] w' fun z w2=>z= .returned (.agg #[yI V,.bool b])∧Rel w' w2):
  Calls Tryz.prog 176 #[ov,.agg #[yI 2,yI n,.string (B nm),.slice A1 0 c1]] w fun z w'=>z= .returned (.agg #[yI V,.bool b])∧Rel w0 w':=by
 have HR:=yH hr
 have Hhb:=yH hb
 have HS:=yH (SB.new hr.self 52 #[yI 2,yI n,.string (B nm),.slice A1 0 c1])
 obtain⟨W,hW⟩:∃W,(w.alloc (.cells #[yI 2,yI n,.string (B nm),.slice A1 0 c1] 52)).alloc (.cells #[yI 0,.bool false] 160)=W:=⟨_,rfl⟩
 rw[hW] at HS
 have hS9:=HS.out
 obtain⟨⟨b0,b1,b2,b3⟩,_⟩:=hS9.2.1.four
 clear hr hS9 hb
 go_enter Tryz.func176,Tryz.ntmps176
 go_wp2_with (go_at_call 184;(with_reducible refine(Hhb.out _ HS.out.r).mono ?_);rintro e w1 ⟨rfl,h1⟩;have HS1:=yH (HS.out.rel h1);have hS9:=HS1.out;obtain⟨a9,b9,hb9⟩:=hS9.2.2;obtain⟨⟨d0,d1⟩,e0,e1⟩:=hb9.two;clear hS9 hb9)
 exact bodyPost_ret (v:= .agg #[yI V,.bool b]) (by simp[results,Tryz.results176,go_sem,d0,d1]) rfl ⟨rfl,HR.out.trans (HS1.out.put _ _).1⟩
theorem pex3(n:Int)(nm:List UInt8)(A1:Option Addr)(c1:Nat)(ov:Value)(w0 w:World)(hr:Rel w0 w)(V:Int)(b:Bool)(hb:∀w',Rel w w'→Calls Tryz.prog 112 #[ov,.string (B nm)] w' fun z w2=>z= .returned (.agg #[yI V,.bool b])∧Rel w' w2):
  Calls Tryz.prog 176 #[ov,.agg #[yI 3,yI n,.string (B nm),.slice A1 0 c1]] w fun z w'=>z= .returned (.agg #[yI V,.bool b])∧Rel w0 w':=by
 have HR:=yH hr
 have Hhb:=yH hb
 have HS:=yH (SB.new hr.self 52 #[yI 3,yI n,.string (B nm),.slice A1 0 c1])
 obtain⟨W,hW⟩:∃W,(w.alloc (.cells #[yI 3,yI n,.string (B nm),.slice A1 0 c1] 52)).alloc (.cells #[yI 0,.bool false] 160)=W:=⟨_,rfl⟩
 rw[hW] at HS
 have hS9:=HS.out
 obtain⟨⟨b0,b1,b2,b3⟩,_⟩:=hS9.2.1.four
 clear hr hS9 hb
 go_enter Tryz.func176,Tryz.ntmps176
 go_wp2_with (go_at_call 112;(with_reducible refine(Hhb.out _ HS.out.r).mono ?_);rintro e w1 ⟨rfl,h1⟩;have HS1:=yH (HS.out.rel h1);have hS9:=HS1.out;obtain⟨a9,b9,hb9⟩:=hS9.2.2;obtain⟨⟨d0,d1⟩,e0,e1⟩:=hb9.two;clear hS9 hb9)
 exact bodyPost_ret (v:= .agg #[yI V,.bool b]) (by simp[results,Tryz.results176,go_sem,d0,d1]) rfl ⟨rfl,HR.out.trans (HS1.out.put _ _).1⟩
theorem pex4(n:Int)(nm:List UInt8)(A1:Option Addr)(c1:Nat)(ov:Value)(w0 w:World)(hr:Rel w0 w):
  Calls Tryz.prog 176 #[ov,.agg #[yI 4,yI n,.string (B nm),.slice A1 0 c1]] w fun z w'=>z= .returned (.agg #[yI n,.bool true])∧Rel w0 w':=by
 have HR:=yH hr
 have HS:=yH (SB.new hr.self 52 #[yI 4,yI n,.string (B nm),.slice A1 0 c1])
 obtain⟨W,hW⟩:∃W,(w.alloc (.cells #[yI 4,yI n,.string (B nm),.slice A1 0 c1] 52)).alloc (.cells #[yI 0,.bool false] 160)=W:=⟨_,rfl⟩
 rw[hW] at HS
 have hS9:=HS.out
 obtain⟨⟨b0,b1,b2,b3⟩,_⟩:=hS9.2.1.four
 clear hr hS9
 go_enter Tryz.func176,Tryz.ntmps176
 go_wp2_with (go_at_call 142;(with_reducible refine(vamount_any n _ _ HS.out.self).mono ?_);rintro e w1 ⟨rfl,h1⟩;have HS1:=yH (HS.out.rel h1);have hS9:=HS1.out;obtain⟨a9,b9,hb9⟩:=hS9.2.2;obtain⟨⟨d0,d1⟩,e0,e1⟩:=hb9.two;clear hS9 hb9)
 exact bodyPost_ret (v:=TV (some n)) (by simp[results,Tryz.results176,go_sem,d0,d1]) rfl ⟨rfl,HR.out.trans (HS1.out.put _ _).1⟩
theorem tp_of_ok{f:FuncId}{args:Array Value}{w w0:World}{r:Rs}{o:Option Int}{V:Int}{b:Bool}(hr:r= .ok o)(hV:o.getD 0=V)(hb:o.isSome=b)(h:Calls Tryz.prog f args w fun e w'=>e= .returned (.agg #[yI V,.bool b])∧Rel w0 w'):Calls Tryz.prog f args w (TPost w0 r):=by subst hr;subst hV;subst hb;exact h
abbrev PE(r:Bool):PanicEntry:={v:= .iface 31 (yI 10),recovered:=r}
theorem err_ta(w:World):(Instr.typeAssert (.iface 31 (yI 10)) 20 31 true).run Tryz.prog w= .ok (.tuple #[yI 10,.bool true]) w:=by rfl
theorem nil_ta(w:World):(Instr.typeAssert .nilIface 20 31 true).run Tryz.prog w= .ok (.tuple #[yI 0,.bool false]) w:=by rfl
theorem vcatch1_panicking(pe:Nat)(w:World)(o:List PanicEntry){e0:Value}(he:Bk w pe 31 #[e0]):
  CallsD Tryz.prog 183 #[.pointer (some ⟨pe,0,none⟩)] (.panicking (PE false::o)) w fun e u' w'=>
   e= .returned (.tuple #[])∧u'= .panicking (PE true::o)∧w'=w.setCell ⟨pe,0,none⟩ (yI 10):=by
 refine callsD_of_wpS Tryz.func183 rfl fun c₀ cs hu=> ?_
 have hta:=err_ta
 have c0:=he.cell 0
 have f0:=he.frozen 0
 simp only[List.getElem?_toArray,List.getElem?_cons_zero] at c0
 change Code.wpS _ _ _ {tmps:= #[.pointer (some ⟨pe,0,none⟩),undef,undef,undef,undef,undef,undef,undef,undef,undef],defers:=[]} _ _
 apply wpS_seq
 apply wpS_region
 simp[wpOpsS,go_sem,recoverD,hu,Exit.thenS,hta]
 apply wpS_seq
 apply wpS_region
 simp[wpOpsS,go_sem,Exit.thenS]
 refine wpS_cond (t:=true) (by simp[Act.eval]) ?_
 simp only[if_true]
 apply wpS_region
 simp[wpOpsS,go_sem,Exit.thenS,c0,f0]
 cases c₀
 simp_all [bodyPostS,results,Tryz.results183]
theorem vcatch1_idle(pe:Nat)(w:World):
  CallsD Tryz.prog 183 #[.pointer (some ⟨pe,0,none⟩)] .returning w fun e u' w'=>e= .returned (.tuple #[])∧u'= .returning∧w'=w:=by
 refine callsD_of_wpS Tryz.func183 rfl fun c₀ cs hu=> ?_
 have hta:=nil_ta
 change Code.wpS _ _ _ {tmps:= #[.pointer (some ⟨pe,0,none⟩),undef,undef,undef,undef,undef,undef,undef,undef,undef],defers:=[]} _ _
 apply wpS_seq
 apply wpS_region
 simp[wpOpsS,go_sem,recoverD,hu,Exit.thenS,hta]
 apply wpS_seq
 apply wpS_region
 simp[wpOpsS,go_sem,Exit.thenS]
 refine wpS_cond (t:=false) (by simp[Act.eval]) ?_
 simp only[Bool.false_eq_true,if_false]
 refine wpS_of_wp (wp_skip ?_)
 cases c₀
 simp_all [bodyPostS,results,Tryz.results183]
theorem veval1_ok(k n:Int)(nm:List UInt8)(A1:Option Addr)(m c1:Nat)(ov:Value)(pl px:Nat)(V:Int)(b:Bool)(w0 w:World)(hr:Rel w0 w)(hl:Bk w pl 27 #[ov])(hx:Bk w px 52 #[yI k,yI n,.string (B nm),.slice A1 m c1])(hb:∀w',Rel w w'→Calls Tryz.prog 176 #[ov,.agg #[yI k,yI n,.string (B nm),.slice A1 m c1]] w' fun z w2=>z= .returned (.agg #[yI V,.bool b])∧Rel w' w2):
  Calls Tryz.prog 175 #[.pointer (some ⟨pl,0,none⟩),.pointer (some ⟨px,0,none⟩)] w fun z w'=>z= .returned (.agg #[yI V,.bool b])∧Rel w0 w':=by
 have HR:=yH hr
 have hz:=hr.size
 have HC:=yH hb
 have HT:=yH (Bk.new w 160 #[yI 0,.bool false])
 have HA:=yH (hr.self.alloc (.cells #[yI 0,.bool false] 160))
 have l0:=(hl.alloc (.cells #[yI 0,.bool false] 160)).cell 0
 obtain⟨⟨x0,x1,x2,x3⟩,_⟩:=(hx.alloc (.cells #[yI 0,.bool false] 160)).four
 obtain⟨W,hW⟩:∃W,w.alloc (.cells #[yI 0,.bool false] 160)=W:=⟨_,rfl⟩
 rw[hW] at HT HA l0 x0 x1 x2 x3
 simp only[List.getElem?_toArray,List.getElem?_cons_zero] at l0
 clear hr hl hx hb
 go_enter Tryz.func175,Tryz.ntmps175
 go_wp2_with (go_at_call 176;(with_reducible refine(HC.out _ HA.out).mono ?_);rintro e w1 ⟨rfl,h1⟩;have R1:=yH h1;obtain⟨⟨d0,d1⟩,e0,e1⟩:=(HT.out.rel h1).two)
 exact bodyPost_ret (v:= .agg #[yI V,.bool b]) (by simp[results,Tryz.results175,go_sem,d0,d1]) rfl ⟨rfl,(((HR.out.trans HA.out).trans R1.out).setCell hz _).setCell hz _⟩
theorem veval1_no(k n:Int)(nm:List UInt8)(A1:Option Addr)(m c1:Nat)(ov:Value)(pl px:Nat)(w0 w:World)(hr:Rel w0 w)(hl:Bk w pl 27 #[ov])(hx:Bk w px 52 #[yI k,yI n,.string (B nm),.slice A1 m c1])(hb:∀w',Rel w w'→Calls Tryz.prog 176 #[ov,.agg #[yI k,yI n,.string (B nm),.slice A1 m c1]] w' fun z w2=>z=FLV∧Rel w' w2):
  Calls Tryz.prog 175 #[.pointer (some ⟨pl,0,none⟩),.pointer (some ⟨px,0,none⟩)] w fun z w'=>z=FLV∧Rel w0 w':=by
 have HR:=yH hr
 have hz:=hr.size
 have HC:=yH hb
 have HT:=yH (Bk.new w 160 #[yI 0,.bool false])
 have HA:=yH (hr.self.alloc (.cells #[yI 0,.bool false] 160))
 have l0:=(hl.alloc (.cells #[yI 0,.bool false] 160)).cell 0
 obtain⟨⟨x0,x1,x2,x3⟩,_⟩:=(hx.alloc (.cells #[yI 0,.bool false] 160)).four
 obtain⟨W,hW⟩:∃W,w.alloc (.cells #[yI 0,.bool false] 160)=W:=⟨_,rfl⟩
 rw[hW] at HT HA l0 x0 x1 x2 x3
 simp only[List.getElem?_toArray,List.getElem?_cons_zero] at l0
 clear hr hl hx hb
 go_enter Tryz.func175,Tryz.ntmps175
 go_wp2_with (go_at_call 176;(with_reducible refine(HC.out _ HA.out).mono ?_);rintro e w1 ⟨rfl,h1⟩)
 exact⟨rfl,rfl,(HR.out.trans HA.out).trans h1⟩
theorem rk_fin{w w2:World}{a b e:Value}(hr:Rel w w2)(h1:Bk w2 w.heap.size 160 #[a,b])(h2:Bk w2 (w.heap.size+1) 31 #[e])(V B n:Value){w5:World}(hw:(((w2.setCell ⟨w.heap.size,0,none⟩ V).setCell ⟨w.heap.size,1,none⟩ B).setCell ⟨w.heap.size+1,0,none⟩ n)=w5):
  Rel w w5∧Bk w5 w.heap.size 160 #[V,B]∧Bk w5 (w.heap.size+1) 31 #[n]:=by
 subst hw
 refine⟨((hr.setCell (Nat.le_refl _) _).setCell (Nat.le_refl _) _).setCell (Nat.le_succ _) _, ?_, ?_⟩
 ·exact((h1.set_ 0 V).set_ 1 B).far (Nat.ne_of_lt (Nat.lt_succ_self _)) _
 ·exact((h2.far (Nat.ne_of_gt (Nat.lt_succ_self _)) V).far (Nat.ne_of_gt (Nat.lt_succ_self _)) B).set_ 0 n
theorem vreckon_ok(pl px:Nat)(V:Int)(b:Bool)(w0 w:World)(hr:Rel w0 w)(hb:∀w',Rel w w'→Calls Tryz.prog 175 #[.pointer (some ⟨pl,0,none⟩),.pointer (some ⟨px,0,none⟩)] w' fun z w2=>z= .returned (.agg #[yI V,.bool b])∧Rel w' w2):
  Calls Tryz.prog 174 #[.func (.func 175) #[] #[.pointer (some ⟨pl,0,none⟩),.pointer (some ⟨px,0,none⟩)]] w fun z w'=>z= .returned (.tuple #[.agg #[yI V,.bool b],yI 0])∧Rel w0 w':=by
 have HR:=yH hr
 have HC:=yH hb
 have hmf:∀(fn:Fn)(first cap:Array Value)(w:World),(Instr.makeFunc fn first cap).run Tryz.prog w= .ok (.func fn first cap) w:=fun _ _ _ _=>rfl
 have HT:=yH ((Bk.new w 160 #[yI 0,.bool false]).alloc (.cells #[yI 0] 31))
 have HE:=yH (Bk.snd w #[yI 0,.bool false] #[yI 0] 160 31)
 have HA:=yH ((hr.self.alloc (.cells #[yI 0,.bool false] 160)).alloc (.cells #[yI 0] 31))
 obtain⟨W,hW⟩:∃W,(w.alloc (.cells #[yI 0,.bool false] 160)).alloc (.cells #[yI 0] 31)=W:=⟨_,rfl⟩
 rw[hW] at HT HE HA
 clear hr hb
 go_enter_defers Tryz.func174,Tryz.ntmps174
 go_wp2_with (go_at_call 175;(with_reducible refine(HC.out _ HA.out).mono ?_);rintro e w1 ⟨rfl,h1⟩;have R1:=yH h1;obtain⟨⟨d0,d1⟩,e0,e1⟩:=(HT.out.rel h1).two;have q0:=(HE.out.rel h1).cell 0;have f0:=(HE.out.rel h1).frozen 0;simp only[List.getElem?_toArray,List.getElem?_cons_zero] at q0)
 obtain⟨w5,hw5⟩:∃w5,(((w1.setCell ⟨w.heap.size,0,none⟩ (yI V)).setCell ⟨w.heap.size,1,none⟩ (.bool b)).setCell ⟨w.heap.size+1,0,none⟩ (yI 0))=w5:=⟨_,rfl⟩
 obtain⟨R5,k1,k2⟩:=rk_fin (HA.out.trans R1.out) (HT.out.rel R1.out) (HE.out.rel R1.out) (yI V) (.bool b) (yI 0) hw5
 rw[hw5]
 clear hw5
 refine leaves_cons (f:=183) (args:= #[.pointer (some ⟨w.heap.size+1,0,none⟩)]) (by simp) (by simp[go_sem]) ?_
 refine(vcatch1_idle (w.heap.size+1) w5).mono ?_
 rintro e u' w7 ⟨rfl,rfl,rfl⟩
 obtain⟨⟨z0,z1⟩,_⟩:=k1.two
 have z2:=k2.cell 0
 simp only[List.getElem?_toArray,List.getElem?_cons_zero] at z2
 exact⟨.tuple #[.agg #[yI V,.bool b],yI 0],by simp[results,Tryz.results174,go_sem,z0,z1,z2],rfl,HR.out.trans R5⟩
theorem vreckon_no(pl px:Nat)(w0 w:World)(hr:Rel w0 w)(hb:∀w',Rel w w'→Calls Tryz.prog 175 #[.pointer (some ⟨pl,0,none⟩),.pointer (some ⟨px,0,none⟩)] w' fun z w2=>z=FLV∧Rel w' w2):
  Calls Tryz.prog 174 #[.func (.func 175) #[] #[.pointer (some ⟨pl,0,none⟩),.pointer (some ⟨px,0,none⟩)]] w fun z w'=>z= .returned (.tuple #[.agg #[yI 0,.bool false],yI 10])∧Rel w0 w':=by
 have HR:=yH hr
 have HC:=yH hb
 have hmf:∀(fn:Fn)(first cap:Array Value)(w:World),(Instr.makeFunc fn first cap).run Tryz.prog w= .ok (.func fn first cap) w:=fun _ _ _ _=>rfl
 have HT:=yH ((Bk.new w 160 #[yI 0,.bool false]).alloc (.cells #[yI 0] 31))
 have HE:=yH (Bk.snd w #[yI 0,.bool false] #[yI 0] 160 31)
 have HA:=yH ((hr.self.alloc (.cells #[yI 0,.bool false] 160)).alloc (.cells #[yI 0] 31))
 obtain⟨W,hW⟩:∃W,(w.alloc (.cells #[yI 0,.bool false] 160)).alloc (.cells #[yI 0] 31)=W:=⟨_,rfl⟩
 rw[hW] at HT HE HA
 clear hr hb
 go_enter_defers Tryz.func174,Tryz.ntmps174
 go_wp2_with (go_at_call 175;(with_reducible refine(HC.out _ HA.out).mono ?_);rintro e w1 ⟨rfl,h1⟩;have R1:=yH h1)
 refine leaves_cons (f:=183) (args:= #[.pointer (some ⟨w.heap.size+1,0,none⟩)]) (by simp) (by simp[go_sem]) ?_
 refine(vcatch1_panicking (w.heap.size+1) w1 [] (HE.out.rel R1.out)).mono ?_
 rintro e u' w7 ⟨rfl,rfl,rfl⟩
 obtain⟨⟨z0,z1⟩,_⟩:=((HT.out.rel R1.out).far (p:=⟨w.heap.size+1,0,none⟩) (Nat.ne_of_lt (Nat.lt_succ_self _)) (yI 10)).two
 have z2:=((HE.out.rel R1.out).set_ 0 (yI 10)).cell 0
 simp only[List.setIfInBounds_toArray,List.set_cons_zero,List.getElem?_toArray,List.getElem?_cons_zero] at z2
 have R5:=(HA.out.trans R1.out).setCell (p:=⟨w.heap.size+1,0,none⟩) (Nat.le_succ _) (yI 10)
 obtain⟨w5,hw5⟩:∃w5,w1.setCell ⟨w.heap.size+1,0,none⟩ (yI 10)=w5:=⟨_,rfl⟩
 rw[hw5] at z0 z1 z2 R5⊢
 exact⟨.tuple #[.agg #[yI 0,.bool false],yI 10],by simp[results,Tryz.results174,go_sem,z0,z1,z2],rfl,HR.out.trans R5⟩
theorem from_twice{os:List Of}{i:Nat}{s:List UInt8}(h:(fromO (os.take i) s).isSome=true):∃k,∃hk:k<os.length,k<i∧os[k].1=s:=by
 unfold fromO at h
 rw[Option.isSome_map,List.find?_isSome] at h
 obtain⟨o,ho,he⟩:=h
 obtain⟨k,hk,rfl⟩:=List.mem_iff_getElem.1 ho
 rw[List.length_take] at hk
 rw[List.getElem_take] at he
 exact⟨k,by omega,by omega,by simpa using he⟩
theorem from_once{os:List Of}{i:Nat}{s:List UInt8}(h:(fromO (os.take i) s).isSome=false):∀k (hk:k<os.length),k<i→os[k].1≠s:=by
 intro k hk hki he
 have:(fromO (os.take i) s).isSome=true:=by
  unfold fromO
  rw[Option.isSome_map,List.find?_isSome]
  exact⟨os[k],by rw[List.mem_iff_getElem];exact⟨k,by rw[List.length_take];omega,by rw[List.getElem_take]⟩,by simpa using he⟩
 rw[h] at this;cases this
theorem vright9_any(A:Option Addr)(c:Nat)(os:List Of)(w0 w:World)(hr:Rel w0 w)(h:OffArg w A c os):
  Calls Tryz.prog 86 #[.slice A os.length c] w fun e w'=>e= .returned (.bool (offsOk os))∧Rel w0 w':=by
 have HR:=yH hr
 have HS:=yH hr.self
 have HOA:=yH h
 have HA:=yH h.2.2.2
 have HF:=yH h.2.2.1
 have hlc:=h.1
 have hcm:c≤9223372036854775807:=by have:=h.2.1;unfold maxLen at this;omega
 have hl:os.length≤9223372036854775807:=by omega
 have hfd:∀(w:World)(P:Int)(b:Bool),(Instr.field 160 (.agg #[yI P,.bool b]) 1).run Tryz.prog w= .ok (.bool b) w:=fun _ _ _=>by kernel_rfl
 clear h hr
 by_cases h8:8<os.length
 ·have HB:=yH (offs_many h8)
  have t1:decide ((8:Int)<(os.length:Int))=true:=decide_eq_true (by omega)
  go_enter Tryz.func86,Tryz.ntmps86
  go_wp2_with (fail)
  go_ret
  exact⟨ret_bool HB.out.symm,HR.out⟩
 have t1:decide ((8:Int)<(os.length:Int))=false:=decide_eq_false (by omega)
 go_enter Tryz.func86,Tryz.ntmps86
 go_wp2_with (fail)
 go_loopw [11] (fun i wr=>∃j:Nat,j≤os.length∧i=yI (j:Int)∧Hid (offsTo os j=true)∧Rel w wr) (fun i _=>os.length-(RowKit.intOf i).toNat)
 case atStart=>exact⟨0,by omega,rfl,yH rfl,HS.out⟩
 case round=>
  obtain⟨i,hi,rfl,HN,hRw⟩:=hrel
  have HRw:=yH hRw
  by_cases hlt:i<os.length
  ·obtain⟨g,off,s,p,rfl,c0,c1,ho⟩:=offs_at HA.out hRw i hlt
   have hs:s.length≤9223372036854775807:=by have:=(HF.out _ (List.getElem_mem hlt)).1;rw[ho] at this;exact this
   have HO:=yH ho
   have hFr:=fun(w':World)(hh:Rel w w')=>vfrom_any s (some ⟨g,off,none⟩) c (os.take i) w' w' hh.self ⟨by rw[List.length_take];omega,HOA.out.2.1,fun o ho=>HF.out o (List.mem_of_mem_take ho),(HA.out.rel hh).take i⟩
   have hti:(os.take i).length=i:=by rw[List.length_take];omega
   rw[hti] at hFr
   obtain⟨P,hP⟩:∃P,(fromO (os.take i) s).getD 0=P:=⟨_,rfl⟩
   obtain⟨tw,htw⟩:∃b,(fromO (os.take i) s).isSome=b:=⟨_,rfl⟩
   unfold TV at hFr
   rw[hP,htw] at hFr
   obtain⟨X,hX⟩:∃X,B s=X:=⟨_,rfl⟩
   obtain⟨b,hb⟩:∃b,isName s=b:=⟨_,rfl⟩
   have hC:=fun(w0 w:World)(hr:Rel w0 w)=>lname_list s (by omega) w0 w hr
   rw[hX,hb] at hC
   rw[hX] at c0 hFr
   have HC:=yH hC
   have HX:=yH hX
   have HBn:=yH hb
   have HTw:=yH htw
   have HBx:=yH (off_box wr X p)
   have HAx:=yH (hRw.self.alloc (.cells #[.string X,yI p] 46))
   have HFr:=yH (fun(w':World)(hh:Rel (wr.alloc (.cells #[.string X,yI p] 46)) w')=>hFr w' ((HRw.out.trans HAx.out).trans hh))
   have HNm:=yH (fun(w':World)(hh:Rel (wr.alloc (.cells #[.string X,yI p] 46)) w')=>hC w' w' hh.self)
   obtain⟨V,hV⟩:∃V,wr.alloc (.cells #[.string X,yI p] 46)=V:=⟨_,rfl⟩
   rw[hV] at HBx HAx HFr HNm
   have hki:(i:Int)≤(c:Int):=by omega
   have hki2:i≤c:=by omega
   have hk0:(0:Int)≤(i:Int):=by omega
   clear ho hX hb hRw hC hFr hP htw
   cases tw with
   |true=>
    have HB:=yH (offs_bad hlt (.inr (by obtain⟨k,hk,hki,he⟩:=from_twice HTw.out;exact⟨k,hk,hki,by rw[HO.out];exact he⟩)))
    go_upto_region 6 with (fail)
    refine wp_region_held_drew (S:=(fun w'=>Rel V w')) (by kernel_rfl) HAx.out.right2.drew (fun hH=> ?_)
    refine yL [0,1,2,3,4] (by kernel_rfl) hH (fun _ _ _ _ _=>id) ?_
    iterate 5
     refine yS rfl rfl (by rfl) ?_ ?_ ?_
     rotate_left
     ·intro w' (h:Rel V w');obtain⟨⟨z0,z1⟩,_⟩:=(HBx.out.rel h).two;go_simp;try with_reducible rfl
     try simp only[Act.put,yA,yB,yC]
    refine yZ ?_
    refine held_one (j:=5) (by kernel_rfl) rfl (fun K hK=> ?_)
    try simp only[yD,yE,yF]
    rw[if_pos (by rfl)]
    go_simp
    go_at_call 112
    (with_reducible refine(HFr.out _ hH).mono ?_)
    rintro e w1 ⟨rfl,h1⟩
    refine hK.out _ _ (hH.trans h1) (fun hH=> ?_)
    clear hK K
    try simp only[Act.put,yA,yB,yC]
    refine yL [6,7] (by kernel_rfl) hH (fun _ _ _ _ _=>id) ?_
    iterate 2
     refine yS rfl rfl (by rfl) ?_ ?_ ?_
     rotate_left
     ·intro w' (h:Rel V w');obtain⟨⟨z0,z1⟩,_⟩:=(HBx.out.rel h).two;go_simp;try with_reducible rfl
     try simp only[Act.put,yA,yB,yC]
    refine yZ ?_
    refine wpAnyH_done (by kernel_rfl) ?_ _
    have RQ:=yH hH
    go_wp2_with (fail)
    go_ret
    exact⟨ret_bool HB.out.symm,((HR.out.trans HRw.out).trans HAx.out).trans RQ.out⟩
   |false=>
    have HOnce:=yH (fun(k:Nat)(hk:k<os.length)(hki:k<i)=>show os[k].1≠os[i].1 by rw[HO.out];exact from_once HTw.out k hk hki)
    cases b with
    |false=>
     have HB:=yH (offs_bad hlt (.inl (offOk_mk HO.out false (by rw[HBn.out];rfl))))
     go_upto_region 6 with (fail)
     refine wp_region_held_drew (S:=(fun w'=>Rel V w')) (by kernel_rfl) HAx.out.right2.drew (fun hH=> ?_)
     refine yL [0,1,2,3,4] (by kernel_rfl) hH (fun _ _ _ _ _=>id) ?_
     iterate 5
      refine yS rfl rfl (by rfl) ?_ ?_ ?_
      rotate_left
      ·intro w' (h:Rel V w');obtain⟨⟨z0,z1⟩,_⟩:=(HBx.out.rel h).two;go_simp;try with_reducible rfl
      try simp only[Act.put,yA,yB,yC]
     refine yZ ?_
     refine held_one (j:=5) (by kernel_rfl) rfl (fun K hK=> ?_)
     try simp only[yD,yE,yF]
     rw[if_pos (by rfl)]
     go_simp
     go_at_call 112
     (with_reducible refine(HFr.out _ hH).mono ?_)
     rintro e w1 ⟨rfl,h1⟩
     refine hK.out _ _ (hH.trans h1) (fun hH=> ?_)
     clear hK K
     try simp only[Act.put,yA,yB,yC]
     refine yL [6,7] (by kernel_rfl) hH (fun _ _ _ _ _=>id) ?_
     iterate 2
      refine yS rfl rfl (by rfl) ?_ ?_ ?_
      rotate_left
      ·intro w' (h:Rel V w');obtain⟨⟨z0,z1⟩,_⟩:=(HBx.out.rel h).two;go_simp;try with_reducible rfl
      try simp only[Act.put,yA,yB,yC]
     refine yZ ?_
     refine wpAnyH_done (by kernel_rfl) ?_ _
     have RQ:=yH hH
     obtain⟨⟨n0,n1⟩,_⟩:=(HBx.out.rel RQ.out).two
     go_wp2_with (go_at_call 113;(with_reducible refine(HNm.out _ RQ.out).mono ?_);rintro e w2 ⟨rfl,h2⟩;obtain⟨⟨m0,m1⟩,_⟩:=(HBx.out.rel (RQ.out.trans h2)).two)
     go_ret
     exact⟨ret_bool HB.out.symm,(((HR.out.trans HRw.out).trans HAx.out).trans RQ.out).trans h2⟩
    |true=>
     by_cases p1:p<1
     ·have t2:decide (p<1)=true:=decide_eq_true p1
      have HB:=yH (offs_bad hlt (.inl (offOk_mk HO.out false (by rw[HBn.out];simp;omega))))
      go_upto_region 6 with (fail)
      refine wp_region_held_drew (S:=(fun w'=>Rel V w')) (by kernel_rfl) HAx.out.right2.drew (fun hH=> ?_)
      refine yL [0,1,2,3,4] (by kernel_rfl) hH (fun _ _ _ _ _=>id) ?_
      iterate 5
          refine yS rfl rfl (by rfl) ?_ ?_ ?_
          rotate_left
          ·intro w' (h:Rel V w');obtain⟨⟨z0,z1⟩,_⟩:=(HBx.out.rel h).two;go_simp;try with_reducible rfl
          try simp only[Act.put,yA,yB,yC]
      refine yZ ?_
      refine held_one (j:=5) (by kernel_rfl) rfl (fun K hK=> ?_)
      try simp only[yD,yE,yF]
      rw[if_pos (by rfl)]
      go_simp
      go_at_call 112
      (with_reducible refine(HFr.out _ hH).mono ?_)
      rintro e w1 ⟨rfl,h1⟩
      refine hK.out _ _ (hH.trans h1) (fun hH=> ?_)
      clear hK K
      try simp only[Act.put,yA,yB,yC]
      refine yL [6,7] (by kernel_rfl) hH (fun _ _ _ _ _=>id) ?_
      iterate 2
          refine yS rfl rfl (by rfl) ?_ ?_ ?_
          rotate_left
          ·intro w' (h:Rel V w');obtain⟨⟨z0,z1⟩,_⟩:=(HBx.out.rel h).two;go_simp;try with_reducible rfl
          try simp only[Act.put,yA,yB,yC]
      refine yZ ?_
      refine wpAnyH_done (by kernel_rfl) ?_ _
      have RQ:=yH hH
      obtain⟨⟨n0,n1⟩,_⟩:=(HBx.out.rel RQ.out).two
      go_wp2_with (go_at_call 113;(with_reducible refine(HNm.out _ RQ.out).mono ?_);rintro e w2 ⟨rfl,h2⟩;obtain⟨⟨m0,m1⟩,_⟩:=(HBx.out.rel (RQ.out.trans h2)).two)
      go_ret
      exact⟨ret_bool HB.out.symm,(((HR.out.trans HRw.out).trans HAx.out).trans RQ.out).trans h2⟩
     ·have t2:decide (p<1)=false:=decide_eq_false p1
      by_cases p2:1000000000000<p
      ·have t3:decide (1000000000000<p)=true:=decide_eq_true p2
       have HB:=yH (offs_bad hlt (.inl (offOk_mk HO.out false (by rw[HBn.out];simp;omega))))
       go_upto_region 6 with (fail)
       refine wp_region_held_drew (S:=(fun w'=>Rel V w')) (by kernel_rfl) HAx.out.right2.drew (fun hH=> ?_)
       refine yL [0,1,2,3,4] (by kernel_rfl) hH (fun _ _ _ _ _=>id) ?_
       iterate 5
        refine yS rfl rfl (by rfl) ?_ ?_ ?_
        rotate_left
        ·intro w' (h:Rel V w');obtain⟨⟨z0,z1⟩,_⟩:=(HBx.out.rel h).two;go_simp;try with_reducible rfl
        try simp only[Act.put,yA,yB,yC]
       refine yZ ?_
       refine held_one (j:=5) (by kernel_rfl) rfl (fun K hK=> ?_)
       try simp only[yD,yE,yF]
       rw[if_pos (by rfl)]
       go_simp
       go_at_call 112
       (with_reducible refine(HFr.out _ hH).mono ?_)
       rintro e w1 ⟨rfl,h1⟩
       refine hK.out _ _ (hH.trans h1) (fun hH=> ?_)
       clear hK K
       try simp only[Act.put,yA,yB,yC]
       refine yL [6,7] (by kernel_rfl) hH (fun _ _ _ _ _=>id) ?_
       iterate 2
        refine yS rfl rfl (by rfl) ?_ ?_ ?_
        rotate_left
        ·intro w' (h:Rel V w');obtain⟨⟨z0,z1⟩,_⟩:=(HBx.out.rel h).two;go_simp;try with_reducible rfl
        try simp only[Act.put,yA,yB,yC]
       refine yZ ?_
       refine wpAnyH_done (by kernel_rfl) ?_ _
       have RQ:=yH hH
       obtain⟨⟨n0,n1⟩,_⟩:=(HBx.out.rel RQ.out).two
       go_wp2_with (go_at_call 113;(with_reducible refine(HNm.out _ RQ.out).mono ?_);rintro e w2 ⟨rfl,h2⟩;obtain⟨⟨m0,m1⟩,_⟩:=(HBx.out.rel (RQ.out.trans h2)).two)
       go_ret
       exact⟨ret_bool HB.out.symm,(((HR.out.trans HRw.out).trans HAx.out).trans RQ.out).trans h2⟩
      ·have t3:decide (1000000000000<p)=false:=decide_eq_false p2
       have HOk:=yH (offOk_mk HO.out true (by rw[HBn.out];simp;omega))
       have HN2:=yH (offsTo_step hlt HN.out HOk.out HOnce.out)
       go_upto_region 6 with (fail)
       refine wp_region_held_drew (S:=(fun w'=>Rel V w')) (by kernel_rfl) HAx.out.right2.drew (fun hH=> ?_)
       refine yL [0,1,2,3,4] (by kernel_rfl) hH (fun _ _ _ _ _=>id) ?_
       iterate 5
        refine yS rfl rfl (by rfl) ?_ ?_ ?_
        rotate_left
        ·intro w' (h:Rel V w');obtain⟨⟨z0,z1⟩,_⟩:=(HBx.out.rel h).two;go_simp;try with_reducible rfl
        try simp only[Act.put,yA,yB,yC]
       refine yZ ?_
       refine held_one (j:=5) (by kernel_rfl) rfl (fun K hK=> ?_)
       try simp only[yD,yE,yF]
       rw[if_pos (by rfl)]
       go_simp
       go_at_call 112
       (with_reducible refine(HFr.out _ hH).mono ?_)
       rintro e w1 ⟨rfl,h1⟩
       refine hK.out _ _ (hH.trans h1) (fun hH=> ?_)
       clear hK K
       try simp only[Act.put,yA,yB,yC]
       refine yL [6,7] (by kernel_rfl) hH (fun _ _ _ _ _=>id) ?_
       iterate 2
        refine yS rfl rfl (by rfl) ?_ ?_ ?_
        rotate_left
        ·intro w' (h:Rel V w');obtain⟨⟨z0,z1⟩,_⟩:=(HBx.out.rel h).two;go_simp;try with_reducible rfl
        try simp only[Act.put,yA,yB,yC]
       refine yZ ?_
       refine wpAnyH_done (by kernel_rfl) ?_ _
       have RQ:=yH hH
       obtain⟨⟨n0,n1⟩,_⟩:=(HBx.out.rel RQ.out).two
       go_wp2_with (go_at_call 113;(with_reducible refine(HNm.out _ RQ.out).mono ?_);rintro e w2 ⟨rfl,h2⟩;obtain⟨⟨m0,m1⟩,_⟩:=(HBx.out.rel (RQ.out.trans h2)).two)
       go_roundw
       case rel=>exact⟨i+1,by omega,by go_num,HN2,((HRw.out.trans HAx.out).trans RQ.out).trans h2⟩
       case measure=>simp[RowKit.intOf];omega
  ·obtain rfl:i=os.length:=by omega
   have HB:=yH (offs_full (by omega) HN.out)
   go_wp2_with (fail)
   go_ret
   exact⟨ret_bool HB.out.symm,HR.out.trans HRw.out⟩
theorem ri_ok(o:Option Int):RV (.ok o)= .tuple #[yI (o.getD 0),.bool o.isSome,yI 0]:=by cases o<;>rfl
theorem ptold_leaf(k n:Int)(nm:List UInt8)(S:Nat→Prop)(e:El)(A:Option Addr)(c:Nat)(os:List Of)(w0 w:World)(hx:fine 32 (.mk k n nm [])=true)(hc:isCond k=false)(hr:Rel w0 w)(h:ExAt S w e (.mk k n nm []))(hl:offsOk os=true)(ho:OffArg w A c os):
  Calls Tryz.prog 176 #[.slice A os.length c,EV e] w (TPost w0 (toldN os 32 (.mk k n nm []))):=by
 obtain⟨p1,p2,p3,p4,p5⟩:=fine_parts (d:=31) hx
 have hk:=kind_list (k:=k) (by omega)
 have h8:=offs_len hl
 obtain⟨A',c',es,rfl,hk',hn,hm,hle,hrow,hsub⟩:=h.open
 rcases hk with rfl|rfl|rfl|rfl|rfl|rfl|rfl|rfl|rfl|rfl|rfl|rfl
 ·exact tp_of_ok (told_one os 31 (.mk 1 n nm []) rfl) rfl rfl (pex1 n nm A' c' (.slice A os.length c) w0 w hr _ _ (fun w' hw=>vranked_any 0 (by omega) A c os h8 w' w' hw.self (ho.rel hw)))
 ·exact tp_of_ok (told_two os 31 (.mk 2 n nm []) rfl) rfl rfl (pex2 n nm A' c' (.slice A os.length c) w0 w hr _ _ (fun w' hw=>vranked_any 1 (by omega) A c os h8 w' w' hw.self (ho.rel hw)))
 ·exact tp_of_ok (told_from os 31 (.mk 3 n nm []) rfl) rfl rfl (pex3 n nm A' c' (.slice A os.length c) w0 w hr _ _ (fun w' hw=>vfrom_any nm A c os w' w' hw.self (ho.rel hw)))
 ·exact tp_of_ok (told_fix os 31 (.mk 4 n nm []) rfl) rfl rfl (pex4 n nm A' c' (.slice A os.length c) w0 w hr)
 all_goals first|exact absurd p1 (by decide)|exact absurd hc (by decide)
theorem ptold_leafx{k n:Int}{nm:List UInt8}{x:Ex}(hx:Ex.mk k n nm []=x)(S:Nat→Prop)(e:El)(A:Option Addr)(c:Nat)(os:List Of)(w0 w:World)(h0:fine 32 x=true)(hc:isCond x.k=false)(hr:Rel w0 w)(h:ExAt S w e x)(hl:offsOk os=true)(ho:OffArg w A c os):
  Calls Tryz.prog 176 #[.slice A os.length c,EV e] w (TPost w0 (toldN os 32 x)):=by
 subst hx
 exact ptold_leaf k n nm S e A c os w0 w h0 hc hr h hl ho
theorem veval_any:EvalOk:=fun x S e A c os w0 w hxl hr h hz ho=>by
 obtain⟨kl,nl,nml,rfl⟩:=hxl
 have hxx:(Ex.mk kl nl nml [])=Ex.mk kl nl nml []:=rfl
 obtain⟨x,hxe⟩:∃x,(Ex.mk kl nl nml [])=x:=⟨_,rfl⟩
 rw[hxe] at h hz⊢
 have HXE:=yH hxe
 clear hxe hxx
 have HR:=yH hr
 have HE:=yH h
 have HO:=yH ho
 obtain⟨k,n,nm,A',m,c'⟩:=e
 have HB:=yH ((Bk.new w 52 #[yI k,yI n,.string (B nm),.slice A' m c']).alloc (.cells #[.slice A os.length c] 27))
 have HL:=yH (Bk.snd w #[yI k,yI n,.string (B nm),.slice A' m c'] #[.slice A os.length c] 52 27)
 have HA:=yH ((hr.self.alloc (.cells #[yI k,yI n,.string (B nm),.slice A' m c'] 52)).alloc (.cells #[.slice A os.length c] 27))
 obtain⟨W,hW⟩:∃W,(w.alloc (.cells #[yI k,yI n,.string (B nm),.slice A' m c'] 52)).alloc (.cells #[.slice A os.length c] 27)=W:=⟨_,rfl⟩
 rw[hW] at HA HB HL
 have hc1:=fun(w':World)(hh:Rel w w')=>vright9_any A c os w' w' (hr.self.trans hh).self (ho.rel hh)
 have hc2:=fun(w':World)(hh:Rel w w')=>tright_any x S (k,n,nm,A',m,c') w' w' (hr.self.trans hh).self (h.rel hh) (by omega)
 obtain⟨b1,h1⟩:∃b,offsOk os=b:=⟨_,rfl⟩
 obtain⟨b2,h2⟩:∃b,rightX x=b:=⟨_,rfl⟩
 rw[h1] at hc1
 rw[h2] at hc2
 have HC1:=yH hc1
 have HC2:=yH hc2
 have H1:=yH h1
 have H2:=yH h2
 obtain⟨⟨x0,x1,x2,x3⟩,_⟩:=HB.out.four
 have l0:=HL.out.cell 0
 simp only[List.getElem?_toArray,List.getElem?_cons_zero] at l0
 clear h ho hc1 hc2 h1 h2 hr
 have key:b1=false∨b2=false∨(b1=true∧b2=true):=by cases b1<;>cases b2<;>simp
 have bad:b1=false∨b2=false→Hid (evalS os x= .error 1):=fun hb=>yH (by
  unfold evalS;rw[H1.out,H2.out]
  rcases hb with rfl|rfl
  ·rfl
  ·rw[Bool.and_false];rfl)
 rcases key with rfl|rfl|⟨rfl,rfl⟩
 ·have HF:=bad (.inl rfl)
  clear bad
  go_enter Tryz.func166,Tryz.ntmps166
  rw[HF.out]
  go_wp2_with (go_at_call 86;(with_reducible refine(HC1.out _ HA.out).mono ?_);rintro e w1 ⟨rfl,r1⟩;have R1:=yH (HA.out.trans r1);obtain⟨⟨d0,d1,d2,d3⟩,_⟩:=(HB.out.rel r1).four)
  go_ret3
  exact⟨rfl,HR.out.trans R1.out⟩
 ·have HF:=bad (.inr rfl)
  clear bad
  go_enter Tryz.func166,Tryz.ntmps166
  rw[HF.out]
  cases b1
  ·go_wp2_with (go_at_call 86;(with_reducible refine(HC1.out _ HA.out).mono ?_);rintro e w1 ⟨rfl,r1⟩;have R1:=yH (HA.out.trans r1);obtain⟨⟨d0,d1,d2,d3⟩,_⟩:=(HB.out.rel r1).four)
   go_ret3
   exact⟨rfl,HR.out.trans R1.out⟩
  ·go_wp2_with (first
    |(go_at_call 86;(with_reducible refine(HC1.out _ HA.out).mono ?_);rintro e w1 ⟨rfl,r1⟩;have R1:=yH (HA.out.trans r1);obtain⟨⟨d0,d1,d2,d3⟩,_⟩:=(HB.out.rel r1).four)
    |(go_at_call 36;(with_reducible refine(HC2.out _ R1.out).mono ?_);rintro e w2 ⟨rfl,r2⟩;have R2:=yH (R1.out.trans r2)))
   go_ret3
   exact⟨rfl,HR.out.trans R2.out⟩
 ·clear bad
  have HF:evalS os x=toldN os 32 x:=by unfold evalS;rw[H1.out,H2.out];rfl
  rw[HF]
  clear HF
  have hT:=fun(w':World)(hh:Rel w w')=>ptold_leafx HXE.out S (k,n,nm,A',m,c') A c os w' w' (right_fine H2.out).1 (right_fine H2.out).2 (HR.out.trans hh).self (HE.out.rel hh) H1.out (HO.out.rel hh)
  cases hq:toldN os 32 x with
  |error er=>
   have he:=told_err _ _ _ _ hq
   subst he
   have hT:=fun(w':World)(hh:Rel w w')=>tp_no (hT w' hh) hq
   have HK:=yH (fun(w':World)(hh:Rel W w')=>vreckon_no (w.heap.size+1) w.heap.size w' w' hh.self (fun w2 h2=>veval1_no k n nm A' m c' (.slice A os.length c) (w.heap.size+1) w.heap.size w2 w2 h2.self (HL.out.rel (hh.trans h2)) (HB.out.rel (hh.trans h2)) (fun w3 h3=>hT w3 ((HA.out.trans hh).trans (h2.trans h3)))))
   clear hT hq
   go_enter Tryz.func166,Tryz.ntmps166
   go_upto_region 4 with (first
    |(go_at_call 86;(with_reducible refine(HC1.out _ HA.out).mono ?_);rintro e w1 ⟨rfl,r1⟩;have R1:=yH (HA.out.trans r1);obtain⟨⟨d0,d1,d2,d3⟩,_⟩:=(HB.out.rel r1).four)
    |(go_at_call 36;(with_reducible refine(HC2.out _ R1.out).mono ?_);rintro e w2 ⟨rfl,r2⟩;have R2:=yH (R1.out.trans r2))
    |(go_at_call 174;(with_reducible refine(HK.out _ (HA.out.self.trans (r1.trans r2))).mono ?_);rintro e w3 ⟨rfl,r3⟩;have R3:=yH (R2.out.trans r3)))
   have HU:=yH (Bk.new w3 160 #[yI 0,.bool false])
   have RU:=yH (R3.out.alloc (.cells #[yI 0,.bool false] 160))
   obtain⟨U,hU⟩:∃U,w3.alloc (.cells #[yI 0,.bool false] 160)=U:=⟨_,rfl⟩
   rw[hU] at HU RU⊢
   clear hU
   obtain⟨⟨p0,p1⟩,_⟩:=HU.out.two
   go_quiet (fail)
   go_wp2_with (fail)
   go_ret3
   exact⟨rfl,(HR.out.trans RU.out).drewN _⟩
  |ok o=>
   rw[ri_ok]
   obtain⟨V,hV⟩:∃V,o.getD 0=V:=⟨_,rfl⟩
   obtain⟨b,hb⟩:∃b,o.isSome=b:=⟨_,rfl⟩
   rw[hV,hb]
   have hT:=fun(w':World)(hh:Rel w w')=>tp_ok (hT w' hh) hq hV hb
   have HK:=yH (fun(w':World)(hh:Rel W w')=>vreckon_ok (w.heap.size+1) w.heap.size V b w' w' hh.self (fun w2 h2=>veval1_ok k n nm A' m c' (.slice A os.length c) (w.heap.size+1) w.heap.size V b w2 w2 h2.self (HL.out.rel (hh.trans h2)) (HB.out.rel (hh.trans h2)) (fun w3 h3=>hT w3 ((HA.out.trans hh).trans (h2.trans h3)))))
   clear hT hq hV hb
   go_enter Tryz.func166,Tryz.ntmps166
   go_upto_region 4 with (first
    |(go_at_call 86;(with_reducible refine(HC1.out _ HA.out).mono ?_);rintro e w1 ⟨rfl,r1⟩;have R1:=yH (HA.out.trans r1);obtain⟨⟨d0,d1,d2,d3⟩,_⟩:=(HB.out.rel r1).four)
    |(go_at_call 36;(with_reducible refine(HC2.out _ R1.out).mono ?_);rintro e w2 ⟨rfl,r2⟩;have R2:=yH (R1.out.trans r2))
    |(go_at_call 174;(with_reducible refine(HK.out _ (HA.out.self.trans (r1.trans r2))).mono ?_);rintro e w3 ⟨rfl,r3⟩;have R3:=yH (R2.out.trans r3)))
   have HU:=yH (Bk.new w3 160 #[yI V,.bool b])
   have RU:=yH (R3.out.alloc (.cells #[yI V,.bool b] 160))
   obtain⟨U,hU⟩:∃U,w3.alloc (.cells #[yI V,.bool b] 160)=U:=⟨_,rfl⟩
   rw[hU] at HU RU⊢
   clear hU
   obtain⟨⟨p0,p1⟩,_⟩:=HU.out.two
   go_quiet (fail)
   go_wp2_with (fail)
   go_ret3
   exact⟨rfl,(HR.out.trans RU.out).drewN _⟩
def doneR(os:List Of)(l:List In):Ms×Nat:=if offsOk os then (if codeOk l then goM os l 0 ([],0) 0 else (([],100),0)) else (([],1),0)
theorem run_done(os:List Of)(l:List In):runS os l=endR (doneR os l).1∧stepsS os l=(doneR os l).2:=by
 unfold runS stepsS doneR
 cases offsOk os<;>cases codeOk l<;>exact⟨rfl,rfl⟩
def nxAt(b:Nat)(w:World):Nat:=match w.cell? ⟨b,1,none⟩ with
 |some (.int _ n)=>n.toNat
 |_=>0
theorem nxAt_eq{w:World}{C D b i:Nat}{ov:Value}{st:Int}{S:List Ce}(h:Mh w C D b ov (i:Int) st S):nxAt b w=i:=by
 obtain⟨A,c,hb⟩:=h.cells
 obtain⟨⟨_,b1,_,_⟩,_⟩:=hb.four
 unfold nxAt
 rw[b1]
 simp
theorem lfn_zero(w:World):(zeroValue 144).run Tryz.prog w= .ok .nilFunc w:=by kernel_rfl
theorem lops_run{w:World}{q b:Nat}(h:MapIs w q (lopsL b))(o:Int)(ho:i64 o){v:Value}(hv:look (lopsL b) o=some v):
  (Instr.lookup 142 (.map (some q)) (yI o) false).run Tryz.prog w= .ok v w:=by
 have:=h.look 142 144 Tryz.underlying142 .nilFunc (lfn_zero w) o (WalkArith.wf_i64 ho)
 rw[hv] at this
 exact this
def DonePost(w:World)(ov:Value)(R:Ms×Nat)(e:Ending)(w':World):Prop:=
 ∃(b D:Nat)(nx:Int)(S:List Ce),e= .returned (.tuple #[.pointer (some ⟨b,0,none⟩),yI R.1.2])∧Mh w' w.heap.size D b ov nx (R.2:Int) S∧(R.1.2=0→S=R.1.1)∧Rel w w'
theorem ldone_any(H:EvalOk)(A A':Option Addr)(c c':Nat)(l:List In)(os:List Of)(w0 w:World)(hr:Rel w0 w)(h:InsArg w A c l)(ho:OffArg w A' c' os):
  Calls Tryz.prog 66 #[.slice A l.length c,.slice A' os.length c'] w (DonePost w (.slice A' os.length c') (doneR os l)):=by
 obtain⟨len,hlen⟩:∃len,l.length=len:=⟨_,rfl⟩
 obtain⟨olen,holen⟩:∃olen,os.length=olen:=⟨_,rfl⟩
 rw[hlen,holen]
 have HL:=yH hlen
 have HO:=yH holen
 have HS:=yH hr.self
 have HI:=yH h
 have HF:=yH ho
 have HA:=yH (hr.self.alloc (.cells #[.slice A' olen c',yI 0,yI 0,.slice none 0 0] 109))
 have HM:=yH (show Mh (w.alloc (.cells #[.slice A' olen c',yI 0,yI 0,.slice none 0 0] 109)) w.heap.size (w.heap.size+1) w.heap.size (.slice A' olen c') 0 0 [] from
  Mh.of (L:=0) (Nat.le_refl _) (Nat.lt_succ_self _) (by rw[World.size_alloc];exact Nat.le_refl _) (by decide) rfl (Bk.new w 109 _) (StkOwn.nil _ _ _) (fun g e=>by cases e))
 have HB:=yH (Bk.new w 109 #[.slice A' olen c',yI 0,yI 0,.slice none 0 0])
 obtain⟨W,hW⟩:∃W,w.alloc (.cells #[.slice A' olen c',yI 0,yI 0,.slice none 0 0] 109)=W:=⟨_,rfl⟩
 rw[hW] at HA HM HB
 have HV:=yH (show ∀w1,Rel w w1→Calls Tryz.prog 86 #[.slice A' olen c'] w1 fun z w'=>z= .returned (.bool (offsOk os))∧Rel w1 w' from fun w1 h1=>by
  have:=vright9_any A' c' os w1 w1 (hr.self.trans h1).self (HF.out.rel h1)
  rw[HO.out] at this;exact this)
 have HC:=yH (show ∀w1,Rel w w1→Calls Tryz.prog 87 #[.slice A len c] w1 fun z w'=>z= .returned (.bool (codeOk l))∧Rel w1 w' from fun w1 h1=>by
  have:=cright_any A c l w1 w1 (hr.self.trans h1).self (HI.out.rel h1)
  rw[HL.out] at this;exact this)
 clear hr h ho hlen holen
 cases hok:offsOk os with
 |false=>
  have HD:=yH (show doneR os l=(([],1),0) by unfold doneR;rw[hok];rfl)
  rw[hok] at HV
  go_enter Tryz.func66,Tryz.ntmps66
  go_wp2_with (go_at_call 86;(with_reducible refine(HV.out _ HA.out).mono ?_);rintro e w1 ⟨rfl,h1⟩)
  go_ret2
  exact⟨w.heap.size,_,_,[],by(rw[HD.out];try rfl),by rw[HD.out];exact HM.out.rel h1,fun _=>by rw[HD.out],HA.out.trans h1⟩
 |true=>
 rw[hok] at HV
 cases hcd:codeOk l with
 |false=>
  have HD:=yH (show doneR os l=(([],100),0) by unfold doneR;rw[hok,hcd];rfl)
  rw[hcd] at HC
  go_enter Tryz.func66,Tryz.ntmps66
  go_wp2_with (first
   |(go_at_call 86;(with_reducible refine(HV.out _ HA.out).mono ?_);rintro e w1 ⟨rfl,h1⟩;have R1:=yH (HA.out.trans h1);have M1:=yH (HM.out.rel h1);clear h1)
   |(go_at_call 87;(with_reducible refine(HC.out _ R1.out).mono ?_);rintro e w2 ⟨rfl,h2⟩))
  go_ret2
  exact⟨w.heap.size,_,_,[],by(rw[HD.out];try rfl),by rw[HD.out];exact M1.out.rel h2,fun _=>by rw[HD.out],R1.out.trans h2⟩
 |true=>
 rw[hcd] at HC
 have HOk:=yH hok
 have HCd:=yH hcd
 have HD:=yH (show doneR os l=goM os l 0 ([],0) 0 by unfold doneR;rw[hok,hcd];rfl)
 have hl5:len≤5000:=by have:=(codeOk_iff.1 hcd).1;have:=HL.out;omega
 have HFw:=yH (fwd_of hcd)
 clear hok hcd
 go_enter Tryz.func66,Tryz.ntmps66
 go_wp2_with (first
  |(go_at_call 86;(with_reducible refine(HV.out _ HA.out).mono ?_);rintro e w1 ⟨rfl,h1⟩;have R1:=yH (HA.out.trans h1);have M1:=yH (HM.out.rel h1);clear h1)
  |(go_at_call 87;(with_reducible refine(HC.out _ R1.out).mono ?_);rintro e w2 ⟨rfl,h2⟩;have R2:=yH (R1.out.trans h2);have M2:=yH (M1.out.rel h2);clear h2)
  |(go_at_call 88;(with_reducible refine(loperations_any w.heap.size w _ R2.out).mono ?_);rintro e w3 ⟨q,rfl,hq,mq,h3⟩;have R3:=yH (R2.out.trans h3);have M3:=yH (M2.out.rel h3);have MQ:=yH mq;have hqb:q≠w.heap.size:=(by have:=M2.out.lt;omega);clear h3 mq hq))
 obtain⟨R,hR⟩:∃R,goM os l 0 ([],0) 0=R:=⟨_,rfl⟩
 have HRr:=yH hR
 clear hR
 go_loopw [] (fun wr=>∃(i k D:Nat)(S:List Ce),Hid (Mh wr w.heap.size D w.heap.size (.slice A' olen c') (i:Int) (k:Int) S)∧i≤len∧k≤i∧Hid (goM os l i (S,0) k=R)∧Hid (Rel w wr)∧Hid (MapIs wr q (lopsL w.heap.size))) (fun wr=>len-nxAt w.heap.size wr)
 case atStart=>exact⟨0,0,_,[],M3,Nat.zero_le _,Nat.le_refl _,HRr,R3,MQ⟩
 case round=>
  obtain⟨i,k,D,S,HMr,hi,hk,HG,HRw,HQ⟩:=hrel
  have hMr:=HMr.out
  obtain⟨Ab,cb,hbb⟩:=hMr.cells
  obtain⟨⟨b0,b1,b2,b3⟩,f0,f1,f2,f3⟩:=hbb.four
  have hblt:=hMr.lt
  have hDw:=hMr.2.2.1
  clear hbb hMr
  by_cases hlt:i<len
  ·have hlt':i<l.length:=by rw[HL.out];exact hlt
   obtain⟨g,off,o,n,nm,rfl,c0,c1,c2,hli⟩:=ins_at HI.out.2.2.2 HRw.out i hlt'
   have hin:=(codeOk_iff.1 HCd.out).2 i hlt'
   rw[hli] at hin
   have hfit:=HI.out.2.2.1 _ (List.getElem_mem hlt')
   rw[hli] at hfit
   obtain⟨fn,hlook,hfn,hop⟩:=lops_any veval_any w.heap.size os HOk.out A' c' l.length i o n nm hin
   have hnext:=step_next (l:=os) HFw.out hlt' (S,0)
   have hstep:=go_step (l:=os) HFw.out (show l[i]?=some (o,n,nm) by rw[List.getElem?_eq_getElem hlt',hli]) S k
   rw[hli] at hnext
   rw[HG.out] at hstep
   obtain⟨⟨nn,T,er⟩,hm⟩:∃m,stepM os (o,n,nm) i (S,0)=m:=⟨_,rfl⟩
   have hop:=fun(D:Nat)(st:Int)(w1:World)(h1:Rel w w1)(h2:Mh w1 w.heap.size D w.heap.size (.slice A' olen c') ((i+1:Nat):Int) st S)=>by
    have:=hop D st S w w1 h1 (by rw[HO.out];exact h2) (HF.out.rel h1)
    rw[hm,HO.out] at this
    exact this
   rw[hm] at hnext hstep
   have HOp:=yH hop
   have HSt:=yH hstep
   have hn1:i<nn:=hnext.1
   have hn2:nn≤len:=by rw[←HL.out];exact hnext.2
   have HX1:=yH (Bk.new wr 140 #[yI o,yI n,.string (B nm)])
   have HR1:=yH (HRw.out.alloc (.cells #[yI o,yI n,.string (B nm)] 140))
   have HM1:=yH (HMr.out.rel (HRw.out.self.alloc (.cells #[yI o,yI n,.string (B nm)] 140)))
   have HQ1:=yH (HQ.out.alloc (.cells #[yI o,yI n,.string (B nm)] 140))
   have hxb:wr.heap.size≠w.heap.size:=by omega
   have HLk:=yH hlook
   have HFt:=yH hfit.1
   clear hop hstep hnext hli hin hfit hlook hm hlt'
   go_upto_region 9 with (fail)
   obtain⟨V1,hV1⟩:∃V,wr.alloc (.cells #[yI o,yI n,.string (B nm)] 140)=V:=⟨_,rfl⟩
   rw[hV1] at HX1 HR1 HM1 HQ1
   try rw[hV1]
   clear hV1 b0 b1 b2 b3 f0 f1 f2 f3 c0 c1 c2
   obtain⟨A1,k1,hb1⟩:=HM1.out.cells
   obtain⟨⟨b0,b1,b2,b3⟩,f0,f1,f2,f3⟩:=hb1.four
   have HX2:=yH (HX1.out.far (p:=⟨w.heap.size,1,none⟩) hxb (yI ((i:Int)+1)))
   have HR2:=yH (HR1.out.setCell (p:=⟨w.heap.size,1,none⟩) (Nat.le_refl _) (yI ((i:Int)+1)))
   have HM2:=yH (show Mh (V1.setCell ⟨w.heap.size,1,none⟩ (yI ((i:Int)+1))) w.heap.size D w.heap.size (.slice A' olen c') ((i+1:Nat):Int) (k:Int) S from HM1.out.next ((i:Int)+1))
   have HQ2:=yH (HQ1.out.set (p:=⟨w.heap.size,1,none⟩) hqb (yI ((i:Int)+1)))
   clear hb1
   go_upto_region 10 with (fail)
   obtain⟨V2,hV2⟩:∃V,V1.setCell ⟨w.heap.size,1,none⟩ (yI ((i:Int)+1))=V:=⟨_,rfl⟩
   rw[hV2] at HX2 HR2 HM2 HQ2
   try rw[hV2]
   clear hV2 b0 b1 b2 b3 f0 f1 f2 f3
   obtain⟨A2,k2,hb2⟩:=HM2.out.cells
   obtain⟨⟨b0,b1,b2,b3⟩,f0,f1,f2,f3⟩:=hb2.four
   have HX3:=yH (HX2.out.far (p:=⟨w.heap.size,2,none⟩) hxb (yI ((k:Int)+1)))
   have HR3:=yH (HR2.out.setCell (p:=⟨w.heap.size,2,none⟩) (Nat.le_refl _) (yI ((k:Int)+1)))
   have HM3:=yH (HM2.out.step ((k:Int)+1))
   have HQ3:=yH (HQ2.out.set (p:=⟨w.heap.size,2,none⟩) hqb (yI ((k:Int)+1)))
   clear hb2
   go_upto_region 11 with (fail)
   obtain⟨V3,hV3⟩:∃V,V2.setCell ⟨w.heap.size,2,none⟩ (yI ((k:Int)+1))=V:=⟨_,rfl⟩
   rw[hV3] at HX3 HR3 HM3 HQ3
   try rw[hV3]
   clear hV3 b0 b1 b2 b3 f0 f1 f2 f3
   obtain⟨⟨x0,x1,x2⟩,_⟩:=three_of HX3.out
   have lk:=lops_run HQ3.out o HFt.out HLk.out
   by_cases he:er=0
   ·subst he
    go_wp2_with ((with_reducible refine(HOp.out D ((k:Int)+1) V3 HR3.out (by exact HM3.out)).mono ?_);rintro e w4 ⟨rfl,r4,k4,D4,S4,nx4,m4,e4⟩;have E4:=yH (e4 rfl);clear e4)
    have m5:Mh w4 w.heap.size D4 w.heap.size (.slice A' olen c') (nn:Int) ((k+1:Nat):Int) T:=by
     have e5:nx4=(nn:Int):=E4.out.1
     have e6:S4=T:=E4.out.2
     rw[←e5,←e6];exact m4
    clear E4 m4
    go_roundw
    case rel=>exact⟨nn,k+1,D4,T,yH m5,hn2,by omega,yH HSt.out.symm,yH r4,yH (MapIs.kr HQ3.out k4 hqb)⟩
    case measure=>
     rw[nxAt_eq (i:=nn) m5,nxAt_eq HMr.out]
     omega
   ·have heb:(er==0)=false:=by simpa using he
    have hen:(er !=0)=true:=by simpa using he
    go_wp2_with ((with_reducible refine(HOp.out D ((k:Int)+1) V3 HR3.out (by exact HM3.out)).mono ?_);rintro e w4 ⟨rfl,r4,k4,D4,S4,nx4,m4,e4⟩)
    go_ret2
    have hend:=HSt.out
    rw[go_err os l nn (T,er) (k+1) he] at hend
    have hdr:doneR os l=((T,er),k+1):=by rw[HD.out,HRr.out];exact hend
    exact⟨w.heap.size,D4,nx4,S4,by(rw[hdr];try rfl),by rw[hdr];exact m4,fun h0=>absurd (by rw[hdr] at h0;exact h0) he,r4⟩
  ·obtain rfl:i=len:=by omega
   have hend:=HG.out
   rw[go_end os l i (S,0) k (by rw[HL.out];exact Nat.le_refl _)] at hend
   have hdr:doneR os l=((S,0),k):=by rw[HD.out,HRr.out];exact hend.symm
   have HDr:=yH hdr
   clear hdr hend
   go_wp2_with (fail)
   go_ret2
   exact⟨w.heap.size,D,_,S,by(rw[HDr.out];try rfl),by rw[HDr.out];exact HMr.out,fun _=>by rw[HDr.out],HRw.out⟩
end Go.Proofs.YtfekhbeaphpelaaGreatDoor
