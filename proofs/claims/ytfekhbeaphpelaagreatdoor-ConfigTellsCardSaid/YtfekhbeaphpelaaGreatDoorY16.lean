/- A loop over a function. -/

import Derived.Test.YtfekhbeaphpelaaGreatDoorY15
set_option maxRecDepth 100000
set_option maxHeartbeats 8000000
set_option linter.unusedVariables false
set_option linter.unusedSimpArgs false
namespace Go.Proofs.YtfekhbeaphpelaaGreatDoor
open Go.RowKit
open Go.Lib
attribute [local go_sem] Oper.semAt_some
theorem put_ne(W:World)(k j:Nat)(o:Obj)(h:j≠k):(W.putObj k o).heap[j]?=W.heap[j]?:=World.putObj_heap_other h
theorem rel_put{w W:World}(h:Rel w W){k:Nat}(hk:w.heap.size≤k)(o:Obj):Rel w (W.putObj k o):=h.grown (grownBy_putObj' W k o) (fun j e=>by cases e;exact hk)
theorem heap_rel{W W':World}(h:Rel W W'){k:Nat}{o:Obj}(hk:W.heap[k]?=some o):W'.heap[k]?=some o:=by
 have hl:k<W.heap.size:=(Array.getElem?_eq_some_iff.1 hk).1
 exact(h.2.block k hl).trans hk
def roundEnds(d e:Nat)(I:World→Prop)(Ix:World→Prop)(W:World):Exit→Act→World→Prop
 | .normal,_,W'=>(W'.heap[d]?=W.heap[d]?∧W'.heap[e]?=W.heap[e]?)∧I W'
 | .ret,_,W'=>(W'.heap[d]?=W.heap[d]?∧W'.heap[e]?=W.heap[e]?)∧Ix W'
 | .exit _,_,_=>False
 | .goto _,_,_=>False
 | .panic _,_,_=>False
 | .outgrown,_,_=>False
def Keep(m:Nat)(W W':World):Prop:=W.heap.size≤W'.heap.size∧∀k,m≤k→k<W.heap.size→W'.heap[k]?=W.heap[k]?
theorem Keep.trans{m:Nat}{W W' W'':World}(h:Keep m W W')(h':Keep m W' W''):Keep m W W'':=
 ⟨Nat.le_trans h.1 h'.1,fun k hk hl=>(h'.2 k hk (Nat.lt_of_lt_of_le hl h.1)).trans (h.2 k hk hl)⟩
theorem Keep.rel{m:Nat}{W W':World}(h:Rel W W'):Keep m W W':=⟨h.size,fun k _ hl=>h.2.block k hl⟩
theorem Keep.put{m:Nat}(W:World){j:Nat}(hj:j<m)(o:Obj):Keep m W (W.putObj j o):=
 ⟨by rw[World.putObj_size];exact Nat.le_refl _,fun k hk _=>World.putObj_heap_other (by omega)⟩
theorem Keep.set{m:Nat}(W:World){j:Nat}(hj:j<m)(i:Nat)(v:Value):Keep m W (W.setCell ⟨j,i,none⟩ v):=
 ⟨by rw[World.size_setCell];exact Nat.le_refl _,fun k hk _=>Below.heap_setCell W ⟨j,i,none⟩ v _ (by simp only;omega)⟩
theorem Keep.bk{m:Nat}{W W':World}(h:Keep m W W'){g:Nat}{t:TypeId}{cs:Array Value}(hb:Bk W g t cs)(hg:m≤g):Bk W' g t cs:=(h.2 g hg (Bk.lt hb)).trans hb
def IterOk(n:Nat)(f:FuncId)(caps:Array Value)(ys:List (Array Value))(Cap:World→Prop):Prop:=
 ∀(l:Nat)(J:List (Array Value)→Nat→World→Prop) (Jx:World→Prop),
  (∀pre m W W',J pre m W→Rel W W'→J pre m W')→
  (∀pre m W,J pre m W→Cap W∧m≤W.heap.size)→
  (∀pre m y W,J pre m W→(∃rest,ys=pre++y::rest)→YieldAt Fence.wide (n-1) Tryz.prog l y W fun e W'=>(e= .returned (.bool true)∧J (pre++[y]) W'.heap.size W'∧Keep m W W')∨(e= .returned (.bool false)∧Jx W'))→
  ∀m W,J [] m W→CallsIn Fence.wide n Tryz.prog f (#[.func (.yield l) #[] #[]]++caps) W fun e W'=>(∃v,e= .returned v)∧((∃m',J ys m' W')∨Jx W')
theorem wpIn_iter{n:Nat}{g:Operand}{ps:Array Tmp}{assign body:Code}{Q:Exit→Act→World→Prop}{a:Act}{w:World}(h1:2≤n)(f:FuncId)(fnc:Func)(hfn:Tryz.prog.funcs[f]?=some fnc)(henter:∀args w,(callFunc f args).run Tryz.prog w= .ok (.enter f args) w)
  (caps:Array Value) (ys:List (Array Value)) (Cap:World→Prop)
  (hg:a.eval g= .func (.func f) #[] caps) (hps:∀y∈ys,y.size=ps.size)
  (hIter:IterOk (n-1) f caps ys Cap)
  (I:List (Array Value)→Nat→World→Prop) (Ix:World→Prop)
  (hIrel:∀pre m W W',I pre m W→Rel W W'→I pre m W') (hIw:∀pre m W,I pre m W→Cap W)
  (hIl:∀pre m W o,I pre m W→I pre m (W.putObj (w.heap.size+1) o)) (hIxl:∀W o,Ix W→Ix (W.putObj (w.heap.size+1) o))
  (h0:∀o o',I [] (w.heap.size+2) ((w.alloc o).alloc o')) (P1:List (Array Value)→Array Value→Act→World→Prop) (hP1:∀pre y a' W o,P1 pre y a' W→P1 pre y a' (W.putObj (w.heap.size+1) o))
  (hassign:∀(l:Nat)(pre:List (Array Value)) (m:Nat) (y:Array Value) (W:World) (K:Act→World→Prop),I pre m W→(∃rest,ys=pre++y::rest)→w.heap.size+1<W.heap.size→(∀a' W',Rel W W'→P1 pre y a' W'→K a' W')→
   assign.wpIn (Fence.wide.inRound l) (n-1-1) Tryz.prog (Exit.then K (fun _ _ _=>False)) {tmps:=(ps.zip y).foldl (fun t (p,v)=>t.setIfInBounds p v) a.tmps,defers:=[]} W)
  (hbody:∀(l:Nat)(pre:List (Array Value)) (m:Nat) (y:Array Value) (a':Act) (W:World),I pre m W→w.heap.size+1<m→P1 pre y a' W→(∃rest,ys=pre++y::rest)→m≤W.heap.size→
   body.wpIn (Fence.wide.inRound l) (n-1-1) Tryz.prog (roundEnds w.heap.size (w.heap.size+1) (fun W'=>I (pre++[y]) W'.heap.size W'∧Keep m W W') Ix W) a' W)
  (hdone:∀m W,I ys m W→W.heap[w.heap.size]?=some (.deferred (some []))→Q .normal {a with defers:={target:= .collected w.heap.size,args:= #[]}::a.defers} W)
  (hstop:∀W,Ix W→W.heap[w.heap.size]?=some (.deferred (some []))→Code.ret.wpIn Fence.wide n Tryz.prog Q {a with defers:={target:= .collected w.heap.size,args:= #[]}::a.defers} W):
  (Code.rangeFunc g ps assign body).wpIn Fence.wide n Tryz.prog Q a w:=by
 refine wpIn_rangeFunc ?_
 intro fn _
 obtain⟨D,hD⟩:∃D,D=w.heap.size:=⟨_,rfl⟩
 obtain⟨mk,hmk⟩:∃mk:LoopState→Option Code→Loop,mk=fun st pe=>{state:=st,pending:=pe,fn,tmps:=a.tmps,params:=ps,assign,body,defers:=w.heap.size}:=⟨_,rfl⟩
 obtain⟨W1,hW1⟩:∃W1,(w.alloc (.deferred (some []))).alloc (.loop (mk .ready none))=W1:=⟨_,rfl⟩
 have hL1:W1.heap[D+1]?=some (.loop (mk .ready none)):=by
  rw[←hW1,hD]
  have:=World.alloc_heap_new (w.alloc (.deferred (some []))) (.loop (mk .ready none))
  rwa [World.size_alloc] at this
 have hK1:W1.heap[D]?=some (.deferred (some [])):=by
  rw[←hW1,hD];exact(Below.heap_alloc _ _ _ (by simp)).trans (World.alloc_heap_new w _)
 have hI1:I [] (D+2) W1:=by rw[←hW1,hD];exact h0 _ _
 have hS1:D+2≤W1.heap.size:=by have:=(Array.getElem?_eq_some_iff.1 hL1).1;omega
 rw[←hD] at hIl hIxl hP1 hassign hbody hdone hstop
 refine⟨D+1,[{target:= .collected D,args:= #[]}],W1,{target:= .fn (.func f) caps,args:= #[.func (.yield (D+1)) #[] #[]]},W1,f,
  #[.func (.yield (D+1)) #[] #[]]++caps,W1, ?_, ?_,fun _ _=>trivial, ?_,fun _=>by omega, ?_⟩
 ·rw[←hW1,hmk,hD];exact run_enterLoop_outer _ _ _ _ _
 ·simp only[resolve,hg]
  simp[go_sem]
 ·simp[invoke,go_sem,henter]
 ·refine(hIter (D+1)
   (fun pre m W=>I pre m W∧(D+1<m∧m≤W.heap.size)∧W.heap[D+1]?=some (.loop (mk .ready none))∧W.heap[D]?=some (.deferred (some [])))
   (fun W=>Ix W∧W.heap[D+1]?=some (.loop (mk .done (some .ret)))∧W.heap[D]?=some (.deferred (some [])))
   ?_ ?_ ?_ (D+2) W1 ⟨hI1,⟨by omega,hS1⟩,hL1,hK1⟩).mono ?_
  ·rintro pre m W W' ⟨k1,km,k2,k3⟩ hr
   exact⟨hIrel _ _ _ _ k1 hr,⟨km.1,Nat.le_trans km.2 hr.size⟩,heap_rel hr k2,heap_rel hr k3⟩
  ·rintro pre m W ⟨k1,km,_,_⟩
   exact⟨hIw _ _ _ k1,km.2⟩
  ·rintro pre m y W ⟨k1,km,k2,k3⟩ hrest
   have hlt:D+1<W.heap.size:=(Array.getElem?_eq_some_iff.1 k2).1
   have hyp:ps.size=y.size:=(hps y (by obtain⟨rest,e⟩:=hrest;rw[e];simp)).symm
   have hy:=run_yield (P:=Tryz.prog) (args:=y) k2 (by rw[hmk];exact hyp.symm)
   refine⟨_,_,_,_,hy, ?_⟩
   have e1:(mk .ready none).fn=fn:=by rw[hmk]
   have e2:(mk .ready none).tmps=a.tmps:=by rw[hmk]
   have e3:(mk .ready none).assign=assign:=by rw[hmk]
   have e4:(mk .ready none).body=body:=by rw[hmk]
   have e5:(mk .ready none).params=ps:=by rw[hmk]
   rw[e1,e2,e3,e4,e5]
   refine roundIn_of_wpIn trivial (hassign _ pre m y W _ k1 hrest hlt fun a' Wa hra hp1=>⟨_,run_beginRound (heap_rel hra k2) (by rw[hmk]), ?_⟩)
   have m1:{mk .ready none with state:= .busy}=mk .busy none:=by rw[hmk]
   rw[m1]
   have k1a:=hIrel _ _ _ _ k1 hra
   have k2a:=heap_rel hra k2
   have k3a:=heap_rel hra k3
   have hlta:D+1<Wa.heap.size:=(Array.getElem?_eq_some_iff.1 k2a).1
   have k2':(Wa.putObj (D+1) (.loop (mk .busy none))).heap[D+1]?=some (.loop (mk .busy none)):=World.putObj_heap_same hlta
   have k3':=(World.putObj_heap_other (w:=Wa) (o:= .loop (mk .busy none)) (show D≠D+1 by omega)).trans k3a
   have kk:=(Keep.rel (m:=m) hra).trans (Keep.put Wa km.1 (.loop (mk .busy none)))
   refine wpIn_mono (hbody _ pre m y a' _ (hIl _ _ _ _ k1a) km.1 (hP1 _ _ _ _ _ hp1) hrest (by rw[World.putObj_size];exact Nat.le_trans km.2 hra.size)) ?_
   have fin:∀(jump:Option Code)(W3:World),W3.heap[D+1]?=(Wa.putObj (D+1) (.loop (mk .busy none))).heap[D+1]?→
     (Instr.endRound (D+1) jump).run Tryz.prog W3= .ok (.bool jump.isNone) (W3.putObj (D+1) (.loop (mk (if jump.isNone then .ready else .done) jump)))∧D+1<W3.heap.size:=fun jump W3 hk=>by
    have h3:=hk.trans k2'
    have:=run_endRound (P:=Tryz.prog) jump h3
    have m2:{mk .busy none with state:=(if jump.isNone then LoopState.ready else .done),pending:=jump}=mk (if jump.isNone then .ready else .done) jump:=by rw[hmk]
    rw[m2] at this
    exact⟨this,(Array.getElem?_eq_some_iff.1 h3).1⟩
   rintro e a3 W3 hp
   cases e with
   |normal=>
    obtain⟨⟨j4,j5⟩,hi3,hk3⟩:=hp
    obtain⟨hr,hl3⟩:=fin none W3 j5
    exact⟨_,_,hr,.inl ⟨rfl,⟨by rw[World.putObj_size];exact hIl _ _ _ _ hi3,⟨by rw[World.putObj_size];exact hl3,Nat.le_refl _⟩,World.putObj_heap_same hl3,(World.putObj_heap_other (by omega)).trans (j4.trans k3')⟩,(kk.trans hk3).trans (Keep.put W3 km.1 _)⟩⟩
   |ret=>
    obtain⟨⟨j4,j5⟩,hi3⟩:=hp
    obtain⟨hr,hl3⟩:=fin (some .ret) W3 j5
    exact⟨_,_,hr,.inr ⟨rfl,hIxl _ _ hi3,World.putObj_heap_same hl3,(World.putObj_heap_other (by omega)).trans (j4.trans k3')⟩⟩
   |exit id=>exact hp.elim
   |goto t=>exact hp.elim
   |panic ch=>exact hp.elim
   |outgrown=>exact hp.elim
  ·rintro e W2 ⟨⟨v,rfl⟩,(⟨m',hi,_,hl,hk⟩|⟨hi,hl,hk⟩)⟩
   ·have hend:=run_endLoop (P:=Tryz.prog) hl (by rw[hmk];simp)
    have m3:(mk .ready none).pending=none:=by rw[hmk]
    rw[m3] at hend
    exact⟨none,_,hend,hdone _ _ (hIl _ _ _ _ hi) ((World.putObj_heap_other (by omega)).trans hk)⟩
   ·have hend:=run_endLoop (P:=Tryz.prog) hl (by rw[hmk];simp)
    have m3:(mk .done (some .ret)).pending=some .ret:=by rw[hmk]
    rw[m3] at hend
    exact⟨some .ret,_,hend,hstop _ (hIxl _ _ hi) ((World.putObj_heap_other (by omega)).trans hk)⟩
end Go.Proofs.YtfekhbeaphpelaaGreatDoor

namespace Go.Proofs.YtfekhbeaphpelaaGreatDoor
open Go.RowKit Go.Lib
theorem lclone_any(s:ByteArray)(hs:s.size≤1000000000)(w0 w:World)(hr:Rel w0 w):Calls Tryz.prog 85 #[.string s] w fun e w'=>e= .returned (.string s)∧Rel w0 w':=by
 have hc:=fun w=>Tryz.stringslite_Clone s w (by omega)
 go_enter Tryz.func85,Tryz.ntmps85
 go_wp2_with (go_at_call 111;refine(hc _).mono ?_;rintro e w' ⟨rfl,hw⟩)
 go_ret
 exact⟨rfl,hr.step hw⟩
theorem lclone_of(s t:ByteArray)(h:Hid (s=t))(hs:t.size≤1000000000)(w0 w:World)(hr:Rel w0 w):Calls Tryz.prog 85 #[.string s] w fun e w'=>e= .returned (.string t)∧Rel w0 w':=by
 rw[h.out];exact lclone_any t hs w0 w hr
theorem run_list(l:List UInt8)(m:Nat)(hm:(l.takeWhile isPt).length=m):m≤l.length∧(∀j (h:j<(B l).size),j<m→isPt ((B l)[j]'h)=true)∧(∀h:m<(B l).size,isPt ((B l)[m]'h)=false):=by
 obtain⟨m',h1,h2,h3,_,h5,_⟩:=run_at (B l) 0 (by omega)
 rw[B_list,List.drop_zero,hm] at h5
 subst h5
 rw[B_size] at h1
 refine⟨by omega,fun j h hj=> ?_,fun h=> ?_⟩
 ·have:=h2 j (by omega) hj
  simpa using this
 ·have:=h3 (by omega)
  simpa using this
theorem lpiece_list(c:UInt8)(t:List UInt8)(hl:t.length+1≤2000)(w0 w:World)(hr:Rel w0 w):
  Calls Tryz.prog 94 #[.string (B (c::t))] w fun e w'=>e= .returned (.string (B (pcOf (c::t))))∧Rel w0 w':=by
 obtain⟨m,hm⟩:∃m,((c::t).takeWhile isPt).length=m:=⟨_,rfl⟩
 obtain⟨hml,hin,hout⟩:=run_list (c::t) m hm
 obtain⟨X,hX⟩:∃X,X=B (pcOf (c::t)):=⟨_,rfl⟩
 have hcut:(B (c::t)).extract 0 (max m 1)=X:=by
  rw[hX,(pc_max c t).1,hm,B_cut,B_list];rfl
 have zX:X.size≤1000000000:=by rw[hX,B_size];have:=pc_len_le (c::t);simp only[List.length_cons] at this;omega
 have HB:=B_cons_size c t
 have HX:=yH hX
 have HIN:=yH hin
 have HOUT:=yH hout
 have HR:=yH hr
 simp only[List.length_cons] at hml
 clear hm hin hout hX
 go_enter Tryz.func94,Tryz.ntmps94
 go_wp2_with (fail)
 go_loop [3] (fun k=>∃q:Nat,q≤m∧k=yI (q:Int)) (fun k=>m-(RowKit.intOf k).toNat)
 case atStart=>exact⟨0,by omega,rfl⟩
 case round=>
  obtain⟨q,hq,rfl⟩:=hrel
  by_cases hqm:q<m
  ·have hqs:q<(B (c::t)).size:=by omega
   have ht:=HIN.out q hqs hqm
   obtain⟨y,hy⟩:∃y,y=(B (c::t))[q]'hqs:=⟨_,rfl⟩
   rw[←hy] at ht
   have hg:∀h,(B (c::t))[q]'h=y:=fun h=>hy.symm
   have HY:=yH ht
   clear hy ht
   go_wp2_with (go_at_call 133;(with_reducible refine(bool_at true (lpart_any y _) HY).mono ?_);rintro e w' ⟨rfl,rfl⟩)
   go_round
   case rel=>exact⟨q+1,by omega,by go_num⟩
   case measure=>simp[RowKit.intOf];omega
  ·obtain rfl:q=m:=by omega
   have hend:(∃(hlt':q<(B (c::t)).size) (y:UInt8),(∀h,(B (c::t))[q]'h=y)∧Hid (isPt y=false))∨q=t.length+1:=by
    rcases Nat.lt_or_ge q (B (c::t)).size with h|h
    ·exact .inl ⟨h,_,fun _=>rfl,yH (HOUT.out h)⟩
    ·exact .inr (by omega)
   rcases hend with ⟨hqs,y,hg,HY⟩|hqs
   ·rcases Nat.eq_zero_or_pos q with h0|h0
    ·subst h0
     have HE:=yH (show(B (c::t)).extract 0 (max (0:Int) 1).toNat=X from hcut)
     clear hcut
     go_wp2_with (first
      |(go_at_call 133;(with_reducible refine(bool_at false (lpart_any y _) HY).mono ?_);rintro e w' ⟨rfl,rfl⟩)
      |(go_at_call 85;(with_reducible refine(lclone_of _ X HE zX _ _ HR.out).mono ?_);rintro e w1 ⟨rfl,h1⟩))
     go_ret
     exact⟨ret_str HX.out,h1⟩
    ·have HE:=yH (show(B (c::t)).extract 0 (max (q:Int) 1).toNat=X by rw[show(max (q:Int) 1).toNat=max q 1 by omega];exact hcut)
     clear hcut
     go_wp2_with (first
      |(go_at_call 133;(with_reducible refine(bool_at false (lpart_any y _) HY).mono ?_);rintro e w' ⟨rfl,rfl⟩)
      |(go_at_call 85;(with_reducible refine(lclone_of _ X HE zX _ _ HR.out).mono ?_);rintro e w1 ⟨rfl,h1⟩))
     go_ret
     exact⟨ret_str HX.out,h1⟩
   ·have HE:=yH (show(B (c::t)).extract 0 (max ((t.length:Int)+1) 1).toNat=X by rw[show(max ((t.length:Int)+1) 1).toNat=max q 1 by omega];exact hcut)
    clear hcut
    go_wp2_with (go_at_call 85;(with_reducible refine(lclone_of _ X HE zX _ _ HR.out).mono ?_);rintro e w1 ⟨rfl,h1⟩)
    go_ret
    exact⟨ret_str HX.out,h1⟩
def TokEnd'(l:List UInt8)(e:Ending):Prop:=
 (∃k n,told l=some (k,n)∧e= .returned (.tuple #[TK (k,l,n,0),yI 0]))∨(told l=none∧e= .returned (.tuple #[TK (0,[],0,0),yI 61]))
theorem ltoken_any(c:UInt8)(t:List UInt8)(hl:t.length+1≤2000)(w0 w:World)(hr:Rel w0 w):
  Calls Tryz.prog 93 #[.string (B (c::t))] w fun e w'=>TokEnd' (c::t) e∧Rel w0 w':=by
 have H0:=B_zero c t
 have HBs:=B_cons_size c t
 have z:=hr.size
 have hr1:=hr.alloc (.cells #[yI 0,.string ⟨#[]⟩,yI 0,yI 0] 78)
 have HB:=yH (Bk.new w 78 #[yI 0,.string ⟨#[]⟩,yI 0,yI 0])
 have HR:=yH hr1
 cases hs:isSg c
 ·have HS:=yH hs
  have hT:=told_not (t:=t) hs
  obtain⟨l,hL⟩:∃l,l=c::t:=⟨_,rfl⟩
  rw[←hL] at hT H0 HBs⊢
  have hBL:(B l).data.toList=l:=B_list l
  have hz:(B l).size≤9223372036854775807:=by omega
  clear hL hs hr1
  cases hw:isWord l
  ·cases hn:isName l
   ·obtain⟨n,hN⟩:∃n,cnt l 100000=n:=⟨_,rfl⟩
    have HWd:=yH (show isWord (B l).data.toList=false by rw[hBL];exact hw)
    have HNd:=yH (show isName (B l).data.toList=false by rw[hBL];exact hn)
    have HCd:=yH (show cnt (B l).data.toList 100000=n by rw[hBL];exact hN)
    by_cases hc:0≤n
    ·have HF:=yH (hT.trans (tok_count hw hn (by rw[hN];exact hc)))
     rw[hN] at HF
     clear hw hn hN hBL hT
     go_enter Tryz.func93,Tryz.ntmps93
     go_wp2_with (first
      |(go_at_call 129;(with_reducible refine(bool_at false (lsign_any c _) HS).mono ?_);rintro e w' ⟨rfl,rfl⟩)
      |(go_at_call 130;(with_reducible refine(bool_at false (lword_any _ _ _ HR.out.self) HWd).mono ?_);rintro e w1 ⟨rfl,h1⟩)
      |(go_at_call 113;(with_reducible refine(bool_at false (lname_any _ hz _ _ h1.self) HNd).mono ?_);rintro e w2 ⟨rfl,h2⟩)
      |(go_at_call 131;(with_reducible refine(int_at n (count_any _ _ hz _ _ h2.self) HCd).mono ?_);rintro e w3 ⟨rfl,h3⟩;obtain⟨⟨c0,c1,c2,c3⟩,f0,f1,f2,f3⟩:=(((HB.out.rel h1).rel h2).rel h3).four))
     obtain⟨⟨r0,r1,r2,r3⟩,_⟩:=((((HB.out.rel h1).rel h2).rel h3).put4 (yI 2) (.string (B l)) (yI n) (yI 0)).four
     exact bodyPost_ret (v:= .tuple #[TK (2,l,n,0),yI 0]) (by simp[results,Tryz.results93,go_sem,r0,r1,r2,r3]) rfl ⟨.inl ⟨2,n,HF.out,rfl⟩,(((HR.out.trans h1).trans h2).trans h3).put4 z _ _ _ _⟩
    ·have hF:=hT.trans (tok_money hw hn (by rw[hN];exact hc))
     obtain⟨m,hm⟩:∃m,prs1 l=m:=⟨_,rfl⟩
     obtain⟨e,he⟩:∃m,prs2 l=m:=⟨_,rfl⟩
     have HM1:=yH (show prs1 (B l).data.toList=m by rw[hBL];exact hm)
     have HM2:=yH (show prs2 (B l).data.toList=e by rw[hBL];exact he)
     have hP:(told l=some (3,m)∧e=0)∨(told l=none∧e≠0):=by
      unfold prs1 at hm
      unfold prs2 at he
      cases h:prs l with
      |none=>rw[h] at he hF;exact .inr ⟨hF,by simp at he;omega⟩
      |some a=>rw[h] at he hm hF;exact .inl ⟨by rw[hF];simp at hm;rw[←hm];rfl,by simp at he;omega⟩
     clear hw hn hN hBL hT hm he hF
     rcases hP with ⟨hP,rfl⟩|⟨hP,he⟩
     ·have HF:=yH hP
      clear hP
      go_enter Tryz.func93,Tryz.ntmps93
      go_wp2_with (first
       |(go_at_call 129;(with_reducible refine(bool_at false (lsign_any c _) HS).mono ?_);rintro e w' ⟨rfl,rfl⟩)
       |(go_at_call 130;(with_reducible refine(bool_at false (lword_any _ _ _ HR.out.self) HWd).mono ?_);rintro e w1 ⟨rfl,h1⟩)
       |(go_at_call 113;(with_reducible refine(bool_at false (lname_any _ hz _ _ h1.self) HNd).mono ?_);rintro e w2 ⟨rfl,h2⟩)
       |(go_at_call 131;(with_reducible refine(int_at n (count_any _ _ hz _ _ h2.self) HCd).mono ?_);rintro e w3 ⟨rfl,h3⟩)
       |(go_at_call 132;(with_reducible refine(two_at m 0 (parse_any _ hz _ _ h3.self) HM1 HM2).mono ?_);rintro e w4 ⟨rfl,h4⟩;obtain⟨⟨c0,c1,c2,c3⟩,f0,f1,f2,f3⟩:=((((HB.out.rel h1).rel h2).rel h3).rel h4).four))
      obtain⟨⟨r0,r1,r2,r3⟩,_⟩:=(((((HB.out.rel h1).rel h2).rel h3).rel h4).put4 (yI 3) (.string (B l)) (yI m) (yI 0)).four
      exact bodyPost_ret (v:= .tuple #[TK (3,l,m,0),yI 0]) (by simp[results,Tryz.results93,go_sem,r0,r1,r2,r3]) rfl ⟨.inl ⟨3,m,HF.out,rfl⟩,((((HR.out.trans h1).trans h2).trans h3).trans h4).put4 z _ _ _ _⟩
     ·have HF:=yH hP
      have he':(e==0)=false:=by simpa using he
      clear hP he
      go_enter Tryz.func93,Tryz.ntmps93
      go_wp2_with (first
       |(go_at_call 129;(with_reducible refine(bool_at false (lsign_any c _) HS).mono ?_);rintro e w' ⟨rfl,rfl⟩)
       |(go_at_call 130;(with_reducible refine(bool_at false (lword_any _ _ _ HR.out.self) HWd).mono ?_);rintro e w1 ⟨rfl,h1⟩)
       |(go_at_call 113;(with_reducible refine(bool_at false (lname_any _ hz _ _ h1.self) HNd).mono ?_);rintro e w2 ⟨rfl,h2⟩)
       |(go_at_call 131;(with_reducible refine(int_at n (count_any _ _ hz _ _ h2.self) HCd).mono ?_);rintro e w3 ⟨rfl,h3⟩)
       |(go_at_call 132;(with_reducible refine(two_at m e (parse_any _ hz _ _ h3.self) HM1 HM2).mono ?_);rintro e w4 ⟨rfl,h4⟩;obtain⟨⟨c0,c1,c2,c3⟩,f0,f1,f2,f3⟩:=((((HB.out.rel h1).rel h2).rel h3).rel h4).four))
      obtain⟨⟨r0,r1,r2,r3⟩,_⟩:=(((((HB.out.rel h1).rel h2).rel h3).rel h4).put4 (yI 0) (.string ⟨#[]⟩) (yI 0) (yI 0)).four
      exact bodyPost_ret (v:= .tuple #[.agg #[yI 0,.string ⟨#[]⟩,yI 0,yI 0],yI 61]) (by simp[results,Tryz.results93,go_sem,r0,r1,r2,r3]) rfl ⟨.inr ⟨HF.out,rfl⟩,((((HR.out.trans h1).trans h2).trans h3).trans h4).put4 z _ _ _ _⟩
   ·have HF:=yH (hT.trans (tok_word (.inr hn)))
    have HWd:=yH (show isWord (B l).data.toList=false by rw[hBL];exact hw)
    have HNd:=yH (show isName (B l).data.toList=true by rw[hBL];exact hn)
    clear hw hn hBL hT
    go_enter Tryz.func93,Tryz.ntmps93
    go_wp2_with (first
     |(go_at_call 129;(with_reducible refine(bool_at false (lsign_any c _) HS).mono ?_);rintro e w' ⟨rfl,rfl⟩)
     |(go_at_call 130;(with_reducible refine(bool_at false (lword_any _ _ _ HR.out.self) HWd).mono ?_);rintro e w1 ⟨rfl,h1⟩)
     |(go_at_call 113;(with_reducible refine(bool_at true (lname_any _ hz _ _ h1.self) HNd).mono ?_);rintro e w2 ⟨rfl,h2⟩;obtain⟨⟨c0,c1,c2,c3⟩,f0,f1,f2,f3⟩:=((HB.out.rel h1).rel h2).four))
    obtain⟨⟨r0,r1,r2,r3⟩,_⟩:=(((HB.out.rel h1).rel h2).put4 (yI 1) (.string (B l)) (yI 0) (yI 0)).four
    exact bodyPost_ret (v:= .tuple #[TK (1,l,0,0),yI 0]) (by simp[results,Tryz.results93,go_sem,r0,r1,r2,r3]) rfl ⟨.inl ⟨1,0,HF.out,rfl⟩,((HR.out.trans h1).trans h2).put4 z _ _ _ _⟩
  ·have HF:=yH (hT.trans (tok_word (.inl hw)))
   have HWd:=yH (show isWord (B l).data.toList=true by rw[hBL];exact hw)
   clear hw hBL hT
   go_enter Tryz.func93,Tryz.ntmps93
   go_wp2_with (first
    |(go_at_call 129;(with_reducible refine(bool_at false (lsign_any c _) HS).mono ?_);rintro e w' ⟨rfl,rfl⟩)
    |(go_at_call 130;(with_reducible refine(bool_at true (lword_any _ _ _ HR.out.self) HWd).mono ?_);rintro e w1 ⟨rfl,h1⟩;obtain⟨⟨c0,c1,c2,c3⟩,f0,f1,f2,f3⟩:=(HB.out.rel h1).four))
   obtain⟨⟨r0,r1,r2,r3⟩,_⟩:=((HB.out.rel h1).put4 (yI 1) (.string (B l)) (yI 0) (yI 0)).four
   exact bodyPost_ret (v:= .tuple #[TK (1,l,0,0),yI 0]) (by simp[results,Tryz.results93,go_sem,r0,r1,r2,r3]) rfl ⟨.inl ⟨1,0,HF.out,rfl⟩,(HR.out.trans h1).put4 z _ _ _ _⟩
 ·have HS:=yH hs
  have HF:=yH (told_sign (t:=t) hs)
  obtain⟨l,hL⟩:∃l,l=c::t:=⟨_,rfl⟩
  rw[←hL] at HF H0 HBs⊢
  obtain⟨⟨c0,c1,c2,c3⟩,f0,f1,f2,f3⟩:=HB.out.four
  clear hL hs hr1
  go_enter Tryz.func93,Tryz.ntmps93
  go_wp2_with (go_at_call 129;(with_reducible refine(bool_at true (lsign_any c _) HS).mono ?_);rintro e w' ⟨rfl,rfl⟩)
  obtain⟨⟨r0,r1,r2,r3⟩,_⟩:=(Bk.new w 78 #[yI 4,.string (B l),yI 0,yI 0]).four
  exact bodyPost_ret (v:= .tuple #[TK (4,l,0,0),yI 0]) (by simp[results,Tryz.results93,go_sem,r0,r1,r2,r3]) rfl ⟨.inl ⟨4,0,HF.out,rfl⟩,hr.alloc _⟩
end Go.Proofs.YtfekhbeaphpelaaGreatDoor

namespace Go.Proofs.YtfekhbeaphpelaaGreatDoor
open Go.RowKit
open Go.Lib
attribute [local go_sem] Oper.semAt_some
def Y(t:Tok):Array Value:= #[TK t,yI 0]
def yields(l:List UInt8):List (Array Value):=(lxP 0 l).1.map Y++(match (lxP 0 l).2 with|none=>[]|some k=>[#[TK (0,[],0,(k:Int)),yI 61]])
theorem piece_as(S:ByteArray)(c:UInt8)(t x:List UInt8)(hS:Hid (S=B (c::t)))(hx:Hid (pcOf (c::t)=x))(hl:t.length+1≤2000)(w0 w:World)(hr:Rel w0 w):Calls Tryz.prog 94 #[.string S] w fun e w'=>e= .returned (.string (B x))∧Rel w0 w':=by
 rw[hS.out,←hx.out];exact lpiece_list c t hl w0 w hr
theorem token_yes(x:List UInt8)(k n:Int)(c:UInt8)(y:List UInt8)(hx:Hid (x=c::y))(h:Hid (told x=some (k,n)))(hl:x.length≤2000)(w0 w:World)(hr:Rel w0 w):Calls Tryz.prog 93 #[.string (B x)] w fun e w'=>e= .returned (.tuple #[TK (k,x,n,0),yI 0])∧Rel w0 w':=by
 have hx:=hx.out
 subst hx
 refine(ltoken_any c y (by simpa using hl) w0 w hr).mono ?_
 rintro e w' ⟨⟨k',n',h',he⟩|⟨h',_⟩,hr'⟩
 ·rw[h.out] at h';injection h' with h';injection h' with a b;subst a;subst b;exact⟨he,hr'⟩
 ·rw[h.out] at h';cases h'
theorem token_no(x:List UInt8)(c:UInt8)(y:List UInt8)(hx:Hid (x=c::y))(h:Hid (told x=none))(hl:x.length≤2000)(w0 w:World)(hr:Rel w0 w):Calls Tryz.prog 93 #[.string (B x)] w fun e w'=>e= .returned (.tuple #[TK (0,[],0,0),yI 61])∧Rel w0 w':=by
 have hx:=hx.out
 subst hx
 refine(ltoken_any c y (by simpa using hl) w0 w hr).mono ?_
 rintro e w' ⟨⟨k',n',h',he⟩|⟨h',he⟩,hr'⟩
 ·rw[h.out] at h';cases h'
 ·exact⟨he,hr'⟩
theorem yields_at{l:List UInt8}{ts r:List Tok}{t:Tok}(h:(lxP 0 l).1=ts++t::r):∃rest,yields l=ts.map Y++Y t::rest:=by
 unfold yields
 obtain⟨q,hq⟩:∃q,(match (lxP 0 l).2 with|none=>[]|some k=>[#[TK (0,[],0,(k:Int)),Value.int .i64 61]])=q:=⟨_,rfl⟩
 rw[hq,h]
 exact⟨r.map Y++q,by simp⟩
theorem yields_end{l:List UInt8}{ts:List Tok}{k:Nat}(h:lxP 0 l=(ts,some k)):yields l=ts.map Y++[#[TK (0,[],0,(k:Int)),yI 61]]:=by
 unfold yields;rw[h]
theorem yields_all{l:List UInt8}{ts:List Tok}(h:lxP 0 l=(ts,none)):yields l=ts.map Y:=by
 unfold yields;rw[h];simp
theorem tokens_in(n:Nat)(hn:2≤n)(s:ByteArray)(hs:s.size≤2000)(b:Nat):
  IterOk n 91 #[.pointer (some ⟨b,0,none⟩)] (yields s.data.toList) (fun W=>Tab W∧Bk W b 9 #[.string s]):=by
 intro l' J Jx hJr hJw hY m0 W h0
 have hn1:1≤n:=by omega
 have HY:=yH hY
 have HJr:=yH hJr
 have HJw:=yH hJw
 have H0:=yH h0
 clear hY hJr hJw h0
 refine callsIn_of_wp Tryz.func91 rfl trivial ?_ rfl
 simp only[Tryz.ntmps91,List.size_toArray,List.length_cons,List.length_nil,Nat.reduceAdd,Nat.reduceSub,Array.replicate_succ,Array.replicate_zero,List.push_toArray,List.append_toArray,List.nil_append,List.cons_append]
 gi_wp2
 have hsl:s.data.toList.length=s.size:=by simp
 have HSL:=yH hsl
 clear hsl
 gi_loopw [3] (fun at' wr=>∃(p m:Nat)(ts:List Tok),p≤s.size∧at'=yI p∧Hid (AtP s.data.toList p ts)∧Hid (J (ts.map Y) m wr)) (fun at' _=>s.size-(RowKit.intOf at').toNat)
 case atStart=>exact⟨0,m0,[],by omega,rfl,yH (AtP.start _),H0⟩
 case round=>
  obtain⟨p,m,ts,hp,rfl,HA,HJ⟩:=hrel
  have p1:=(HJw.out _ _ _ HJ.out).1.2.cell 0
  have hmw:=(HJw.out _ _ _ HJ.out).2
  simp only[List.getElem?_toArray,List.getElem?_cons_zero] at p1
  by_cases hlt:p<s.size
  ·have hgo:∀h,s[p]'h=s[p]'hlt:=fun h=>rfl
   obtain⟨cc,hcc⟩:∃cc,cc=s[p]'hlt:=⟨_,rfl⟩
   rw[←hcc] at hgo
   have hdp:=drop_cons s p hlt
   rw[←hcc] at hdp
   obtain⟨tl,htl⟩:∃tl,tl=s.data.toList.drop (p+1):=⟨_,rfl⟩
   rw[←htl] at hdp
   have hll:tl.length+1+p=s.size:=by rw[htl,List.length_drop,HSL.out];omega
   have HD:=yH hdp
   clear hcc hdp htl
   cases hb:isBl cc
   ·have HBl:=yH hb
    have hd1:s.extract p s.size=B (cc::tl):=by rw[B_cut,List.take_of_length_le (by rw[List.length_drop,HSL.out];omega),HD.out]
    obtain⟨x,hx⟩:∃x,pcOf (cc::tl)=x:=⟨_,rfl⟩
    obtain⟨y,hy0⟩:=pc_head cc tl
    have hxl:x.length≤tl.length+1:=by rw[←hx];exact pc_len_le (cc::tl)
    have hx1:1≤x.length:=by rw[←hx,hy0];simp
    have hpc:=HA.out.piece HD.out hb
    rw[hx] at hpc hy0
    have HXC:=yH hy0
    have HPX:=yH hx
    have hS9:=Rel.start (HJw.out _ _ _ HJ.out).1.1
    have ltl:tl.length+1≤2000:=by omega
    have lx2:x.length≤2000:=by omega
    have bxs:(B x).size=x.length:=B_size x
    clear hb hx hy0
    rcases hpc with ⟨k,n0,htd,hat,hrest⟩|⟨htd,hend⟩
    ·have HTD:=yH htd
     have HN:=yH hat
     have HYr:=yH hrest
     clear htd hat hrest
     gi_wp2_with (first
      |(refine⟨trivial, ?_⟩;gi_at_call 92;refine(callsIn_wide.2 (bool_at false (lblank_any cc _) HBl)).mono ?_;rintro e w' ⟨rfl,rfl⟩)
      |(refine⟨trivial, ?_⟩;gi_at_call 94;refine(callsIn_wide.2 (piece_as (B (cc::tl)) cc tl x (yH rfl) HPX ltl _ _ hS9.self)).mono ?_;rintro e w3 ⟨rfl,h3⟩)
      |(refine⟨trivial, ?_⟩;gi_at_call 93;refine(callsIn_wide.2 (token_yes x k n0 cc y HXC HTD lx2 _ _ h3.self)).mono ?_;rintro e w4 ⟨rfl,h4⟩;obtain⟨fn,tmps,assign,body,hy,hR⟩:=HY.out (ts.map Y) m (Y (k,x,n0,(p:Int))) (w4.alloc (.cells #[yI k,.string (B x),yI n0,yI (p:Int)] 78)) (HJr.out _ _ _ _ HJ.out ((h3.trans h4).alloc _)) (by obtain⟨r,hr⟩:=HYr.out;exact yields_at hr);change (Instr.yield l' #[.agg #[yI k,.string (B x),yI n0,yI (p:Int)],yI 0]).run _ _=_ at hy))
     refine hR.mono ?_
     rintro e W3 (⟨rfl,hJ3,hk3⟩|⟨rfl,hx3⟩)
     ·have hgm:m≤w4.heap.size:=by have:=h3.size;have:=h4.size;omega
      have c1:=(hk3.bk (Bk.new w4 78 #[yI k,.string (B x),yI n0,yI (p:Int)]) hgm).cell 1
      simp only[List.getElem?_toArray,List.getElem?_cons_succ,List.getElem?_cons_zero] at c1
      gi_wp2
      go_roundw
      case rel=>exact⟨p+x.length,_,ts++[(k,x,n0,(p:Int))],by omega,by go_num,HN,yH (by rw[List.map_append];exact hJ3)⟩
      case measure=>simp[RowKit.intOf];omega
     ·gi_wp2
      first|go_end0|refine bodyPost_ret (results_none rfl _ _ _) rfl ?_
      exact⟨⟨_,rfl⟩,.inr hx3⟩
    ·have HTD:=yH htd
     have HYE:=yH (yields_end hend)
     clear htd hend
     gi_wp2_with (first
      |(refine⟨trivial, ?_⟩;gi_at_call 92;refine(callsIn_wide.2 (bool_at false (lblank_any cc _) HBl)).mono ?_;rintro e w' ⟨rfl,rfl⟩)
      |(refine⟨trivial, ?_⟩;gi_at_call 94;refine(callsIn_wide.2 (piece_as (B (cc::tl)) cc tl x (yH rfl) HPX ltl _ _ hS9.self)).mono ?_;rintro e w3 ⟨rfl,h3⟩)
      |(refine⟨trivial, ?_⟩;gi_at_call 93;refine(callsIn_wide.2 (token_no x cc y HXC HTD lx2 _ _ h3.self)).mono ?_;rintro e w4 ⟨rfl,h4⟩;obtain⟨fn,tmps,assign,body,hy,hR⟩:=HY.out (ts.map Y) m #[TK (0,[],0,(p:Int)),yI 61] (w4.alloc (.cells #[yI 0,.string (B []),yI 0,yI (p:Int)] 78)) (HJr.out _ _ _ _ HJ.out ((h3.trans h4).alloc _)) (⟨[],HYE.out⟩);change (Instr.yield l' #[.agg #[yI 0,.string (B []),yI 0,yI (p:Int)],yI 61]).run _ _=_ at hy))
     refine hR.mono ?_
     rintro e W3 (⟨rfl,hJ3,_⟩|⟨rfl,hx3⟩)
     ·gi_wp2
      first|go_end0|refine bodyPost_ret (results_none rfl _ _ _) rfl ?_
      exact⟨⟨_,rfl⟩,.inl ⟨_,by rw[HYE.out];exact hJ3⟩⟩
     ·gi_wp2
      first|go_end0|refine bodyPost_ret (results_none rfl _ _ _) rfl ?_
      exact⟨⟨_,rfl⟩,.inr hx3⟩
   ·have HN:=yH (HA.out.blank HD.out hb)
    have HBl:=yH hb
    clear hb
    gi_wp2_with (refine⟨trivial, ?_⟩;gi_at_call 92;refine(callsIn_wide.2 (bool_at true (lblank_any cc _) HBl)).mono ?_;rintro e w' ⟨rfl,rfl⟩)
    go_roundw
    case rel=>exact⟨p+1,m,ts,by omega,by go_num,HN,HJ⟩
    case measure=>simp[RowKit.intOf];omega
  ·obtain rfl:p=s.size:=by omega
   have hA2:AtP s.data.toList s.data.toList.length ts:=by rw[HSL.out];exact HA.out
   have HYE:=yH (yields_all hA2.done)
   have HYF:Hid (yields s.data.toList=ts.map Y++[Y (5,[],0,(s.size:Int))]):=yH (by rw[HYE.out,HSL.out];simp)
   obtain⟨fn,tmps,assign,body,hy,hR⟩:=HY.out (ts.map Y) m (Y (5,[],0,(s.size:Int))) wr HJ.out ⟨[],HYF.out⟩
   change (Instr.yield l' #[.agg #[yI 5,.string ⟨#[]⟩,yI 0,yI (s.size:Int)],yI 0]).run _ _=_ at hy
   gi_wp2
   refine hR.mono ?_
   rintro e W3 (⟨rfl,hJ3,_⟩|⟨rfl,hx3⟩)
   ·gi_wp2
    first|go_end0|refine bodyPost_ret (results_none rfl _ _ _) rfl ?_
    exact⟨⟨_,rfl⟩,.inl ⟨_,by rw[HYF.out];exact hJ3⟩⟩
   ·gi_wp2
    first|go_end0|refine bodyPost_ret (results_none rfl _ _ _) rfl ?_
    exact⟨⟨_,rfl⟩,.inr hx3⟩
theorem tokens_any(s:ByteArray)(w0 w:World)(hr:Rel w0 w):Calls Tryz.prog 73 #[.string s] w fun e w'=>e= .returned (.func (.func 91) #[] #[.pointer (some ⟨w.heap.size,0,none⟩)])∧w'=w.alloc (.cells #[.string s] 9):=by
 go_enter Tryz.func73,Tryz.ntmps73
 go_wp2
 go_ret
 exact⟨rfl,rfl⟩
def LexI(w:World)(D:Nat)(s:ByteArray)(pre:List (Array Value))(m:Nat)(W:World):Prop:=
 Rel w W∧Bk W w.heap.size 71 #[.slice none 0 0]∧Bk W (w.heap.size+1) 31 #[yI 0]∧Bk W (w.heap.size+2) 3 #[yI 0]∧Bk W (w.heap.size+4) 9 #[.string s]∧
 ∃(ts:List Tok)(A:Option Addr)(c:Nat),pre=ts.map Y∧Bk W (w.heap.size+3) 71 #[.slice A ts.length c]∧TokOwn W (D+2) (.slice A ts.length c) ts∧∀j,(Value.slice A ts.length c).ownBlock=some j→j<m
def LexX(w:World)(l:List UInt8)(W:World):Prop:=
 Rel w W∧∃(k:Nat),(lxP 0 l).2=some k∧Bk W w.heap.size 71 #[.slice none 0 0]∧Bk W (w.heap.size+1) 31 #[yI 61]∧Bk W (w.heap.size+2) 3 #[yI (k:Int)]
theorem yields_form{l:List UInt8}{y:Array Value}(h:y∈yields l):∃(t:Tok)(v:Int),y= #[TK t,yI v]∧(v=0∨(v=61∧∃k:Nat,(lxP 0 l).2=some k∧t.2.2.2=(k:Int))):=by
 unfold yields at h
 rcases List.mem_append.1 h with h|h
 ·obtain⟨t,_,rfl⟩:=List.mem_map.1 h
  exact⟨t,0,rfl,.inl rfl⟩
 ·cases hk:(lxP 0 l).2 with
  |none=>rw[hk] at h;cases h
  |some k=>rw[hk] at h;rw[List.mem_singleton.1 h];exact⟨_,61,rfl,.inr ⟨rfl,k,rfl,rfl⟩⟩
theorem row_put{W:World}{b k n:Nat}{v:Value}{xs:List Value}(h:W.ownsRow b 78 4 v n xs)(hk:k<b)(o:Obj):(W.putObj k o).ownsRow b 78 4 v n xs:=
 h.kept (grownBy_putObj' W k o) (by
  cases hv:v.ownBlock with
  |none=>exact .inl rfl
  |some j=>exact .inr (fun e=>by have:=(h.lt j hv).1;injection e with e;omega))
theorem row_set{W:World}{b k n:Nat}{v:Value}{xs:List Value}(h:W.ownsRow b 78 4 v n xs)(hk:k<b)(u:Value):(W.setCell ⟨k,0,none⟩ u).ownsRow b 78 4 v n xs:=
 own_set h (fun e=>by have:=(h.lt _ e.symm).1;simp only at this;omega) u
def LexP(w:World)(s:ByteArray)(_:List (Array Value))(y:Array Value)(a':Act)(W:World):Prop:=
 ∃(t:Tok)(v:Int)(g:Nat),y= #[TK t,yI v]∧w.heap.size+6<g∧TB W g t∧a'={tmps:= #[.string s,undef,.pointer (some ⟨w.heap.size,0,none⟩),.pointer (some ⟨w.heap.size+1,0,none⟩),.pointer (some ⟨w.heap.size+1+1,0,none⟩),.pointer (some ⟨w.heap.size+1+1+1,0,none⟩),.pointer (some ⟨g,0,none⟩),yI v,
  .string s,yI (s.size:Int),.bool false,.string s,.func (.func 91) #[] #[.pointer (some ⟨w.heap.size+1+1+1+1,0,none⟩)],TK t,yI v,undef,undef,undef,undef,undef,undef,undef,undef,undef,undef],defers:=[]}
theorem lxP_few:∀(m:Nat)(l:List UInt8),l.length≤m→∀p:Nat,(lxP p l).1.length≤l.length+1:=by
 intro m
 induction m with
 |zero=>
  intro s hs p
  obtain rfl:s=[]:=List.length_eq_zero_iff.1 (by omega)
  rw[lxP_nil];simp
 |succ m ih=>
  intro s hs p
  cases s with
  |nil=>rw[lxP_nil];simp
  |cons c t=>
   simp only[List.length_cons] at hs⊢
   cases hb:isBl c
   ·cases hg:isSg c
    ·cases hn:tokOf ((c::t).takeWhile isPt) with
     |none=>rw[lxP_bad _ c t hb hg hn];simp
     |some kn=>
      obtain⟨k,j⟩:=kn
      have hx:=tokOf_ne hn
      have h2:=run_len (c::t)
      have h3:1≤((c::t).takeWhile isPt).length:=by
       rcases hx':(c::t).takeWhile isPt with _|⟨a,b⟩
       ·exact absurd hx' hx
       ·simp
      simp only[List.length_cons] at h2
      rw[lxP_tok _ c t k j hb hg hn]
      have:=ih ((c::t).dropWhile isPt) (by omega) (p+((c::t).takeWhile isPt).length)
      simp only[List.length_cons];omega
    ·rw[lxP_sign _ c t hb hg]
     have:=ih t (by omega) (p+1)
     simp only[List.length_cons];omega
   ·rw[lxP_blank _ c t hb]
    have:=ih t (by omega) (p+1)
    omega
theorem yields_few(l:List UInt8):(yields l).length≤l.length+2:=by
 have:=lxP_few _ l (Nat.le_refl _) 0
 unfold yields
 rw[List.length_append,List.length_map]
 split
 ·simp;omega
 ·simp;omega
theorem Bk.set1{w:World}{g:Nat}{t:TypeId}{x:Value}(h:Bk w g t #[x])(v:Value):Bk (w.setCell ⟨g,0,none⟩ v) g t #[v]:=h.set_ 0 v
theorem B_inj{a b:List UInt8}(h:B a=B b):a=b:=by rw[←B_list a,h,B_list]
theorem Y_inj{t t':Tok}(h:Y t=Y t'):t=t':=by
 obtain⟨k,x,n,p⟩:=t
 obtain⟨k',x',n',p'⟩:=t'
 unfold Y at h
 simp at h
 obtain⟨h1,h2,h3,h4⟩:=h
 rw[h1,B_inj h2,h3,h4]
theorem map_Y_inj:∀{a b:List Tok},a.map Y=b.map Y→a=b
 |[],[],_=>rfl
 |[],_::_,h=>by cases h
 |_::_,[],h=>by cases h
 |x::a,y::b,h=>by
  simp only[List.map_cons,List.cons.injEq] at h
  rw[Y_inj h.1,map_Y_inj h.2]
theorem yields_full{l:List UInt8}{ts:List Tok}(h:yields l=ts.map Y):lxP 0 l=(ts,none):=by
 unfold yields at h
 cases hk:(lxP 0 l).2 with
 |none=>
  rw[hk,List.append_nil] at h
  exact Prod.ext (map_Y_inj h) hk
 |some k=>
  rw[hk] at h
  have hm:(#[TK (0,[],0,(k:Int)),Value.int .i64 61]:Array Value)∈ts.map Y:=by rw[←h];simp
  obtain⟨t,_,e⟩:=List.mem_map.1 hm
  unfold Y at e
  simp at e
theorem LexI.rel{w:World}{D m:Nat}{s:ByteArray}{pre:List (Array Value)}{W W':World}(h:LexI w D s pre m W)(hr:Rel W W'):LexI w D s pre m W':=by
 obtain⟨r0,x0,x1,x2,x4,ts,A,c,hp,x3,xo,xm⟩:=h
 exact⟨r0.trans hr,x0.rel hr,x1.rel hr,x2.rel hr,x4.rel hr,ts,A,c,hp,x3.rel hr,xo.rel hr,xm⟩
theorem LexI.put{w:World}{m:Nat}{s:ByteArray}{pre:List (Array Value)}{W:World}(h:LexI w (w.heap.size+5) s pre m W)(o:Obj):LexI w (w.heap.size+5) s pre m (W.putObj (w.heap.size+6) o):=by
 obtain⟨r0,x0,x1,x2,x4,ts,A,c,hp,x3,xo,xm⟩:=h
 exact⟨rel_put r0 (by omega) o,(put_ne W _ _ o (by omega)).trans x0,(put_ne W _ _ o (by omega)).trans x1,(put_ne W _ _ o (by omega)).trans x2,(put_ne W _ _ o (by omega)).trans x4,ts,A,c,hp,(put_ne W _ _ o (by omega)).trans x3,row_put xo (by omega) o,xm⟩
theorem LexX.put{w:World}{l:List UInt8}{W:World}(h:LexX w l W)(o:Obj):LexX w l (W.putObj (w.heap.size+6) o):=by
 obtain⟨r0,k,hk,x0,x1,x2⟩:=h
 exact⟨rel_put r0 (by omega) o,k,hk,(put_ne W _ _ o (by omega)).trans x0,(put_ne W _ _ o (by omega)).trans x1,(put_ne W _ _ o (by omega)).trans x2⟩
theorem lex_end{W:World}{rb D:Nat}{V:Value}{x y:Int}{R:Ending→World→Prop}{a:Act}(h2:a.tmps.getD 2 undef= .pointer (some ⟨rb,0,none⟩))(h3:a.tmps.getD 3 undef= .pointer (some ⟨rb+1,0,none⟩))(h4:a.tmps.getD 4 undef= .pointer (some ⟨rb+1+1,0,none⟩))
  (hd:a.defers=[{target:= .collected D,args:= #[]}]) (hD:rb+2<D) (hK:W.heap[D]?=some (.deferred (some []))) (hb:Bk W rb 71 #[V]) (hc:Bk W (rb+1) 31 #[yI x]) (hc2:Bk W (rb+1+1) 3 #[yI y])
  (hR:R (.returned (.tuple #[V,yI x,yI y])) (W.putObj D (.deferred none))):bodyPostM Fence.wide 6 Tryz.prog Tryz.f54 R .ret a W:=by
 show LeavesInM Fence.wide 6 Tryz.prog Tryz.f54 a.tmps R a.defers .returning W
 rw[hd]
 refine⟨by simp,.inl ⟨_,_,rfl,run_takeDeferred hK, ?_⟩⟩
 have c0:=Bk.cell (show Bk (W.putObj D (.deferred none)) rb 71 #[V] from(put_ne W D rb _ (by omega)).trans hb) 0
 have c1:=Bk.cell (show Bk (W.putObj D (.deferred none)) (rb+1) 31 #[yI x] from(put_ne W D (rb+1) _ (by omega)).trans hc) 0
 have c2:=Bk.cell (show Bk (W.putObj D (.deferred none)) (rb+1+1) 3 #[yI y] from(put_ne W D (rb+1+1) _ (by omega)).trans hc2) 0
 simp only[List.getElem?_toArray,List.getElem?_cons_zero] at c0 c1 c2
 have h2':a.tmps[2]?.getD undef= .pointer (some ⟨rb,0,none⟩):=by simpa using h2
 have h3':a.tmps[3]?.getD undef= .pointer (some ⟨rb+1,0,none⟩):=by simpa using h3
 have h4':a.tmps[4]?.getD undef= .pointer (some ⟨rb+1+1,0,none⟩):=by simpa using h4
 refine⟨_, ?_,hR⟩
 simp[results,Tryz.f54,go_sem,h2',h3',h4',c0,c1,c2]
theorem three{W W':World}{p1 p2 p3:Nat}{t1 t2 t3:TypeId}{u1 u2 u3 v1 v2 v3:Value}(h1:Bk W p1 t1 #[u1])(h2:Bk W p2 t2 #[u2])(h3:Bk W p3 t3 #[u3])(n12:p1≠p2)(n13:p1≠p3)(n23:p2≠p3)
  (e:(((W.setCell ⟨p1,0,none⟩ v1).setCell ⟨p2,0,none⟩ v2).setCell ⟨p3,0,none⟩ v3)=W'):
  Bk W' p1 t1 #[v1]∧Bk W' p2 t2 #[v2]∧Bk W' p3 t3 #[v3]∧(∀k,k≠p1→k≠p2→k≠p3→W'.heap[k]?=W.heap[k]?)∧(∀w,Rel w W→w.heap.size≤p1→w.heap.size≤p2→w.heap.size≤p3→Rel w W'):=by
 subst e
 refine⟨?_, ?_, ?_, ?_, ?_⟩
 ·exact((h1.set1 v1).far (p:=⟨p2,0,none⟩) n12 _).far (p:=⟨p3,0,none⟩) n13 _
 ·exact((h2.far (p:=⟨p1,0,none⟩) (Ne.symm n12) _).set1 v2).far (p:=⟨p3,0,none⟩) n23 _
 ·exact((h3.far (p:=⟨p1,0,none⟩) (Ne.symm n13) _).far (p:=⟨p2,0,none⟩) (Ne.symm n23) _).set1 v3
 ·intro k k1 k2 k3
  exact(Below.heap_setCell _ ⟨p3,0,none⟩ _ _ (by simpa using k3)).trans ((Below.heap_setCell _ ⟨p2,0,none⟩ _ _ (by simpa using k2)).trans (Below.heap_setCell _ ⟨p1,0,none⟩ _ _ (by simpa using k1)))
 ·intro w hr a b c
  exact((hr.setCell (p:=⟨p1,0,none⟩) a _).setCell (p:=⟨p2,0,none⟩) b _).setCell (p:=⟨p3,0,none⟩) c _
theorem lexi_next{w W w4:World}{s:ByteArray}{m:Nat}{ts:List Tok}{A:Option Addr}{c:Nat}{t:Tok}{g' cap':Nat}(r0:Rel w W)(x0:Bk W w.heap.size 71 #[.slice none 0 0])(x1:Bk W (w.heap.size+1) 31 #[yI 0])(x2:Bk W (w.heap.size+2) 3 #[yI 0])
  (x4:Bk W (w.heap.size+4) 9 #[.string s]) (x3:Bk W (w.heap.size+3) 71 #[.slice A ts.length c]) (xo:W.ownsRow (w.heap.size+5+2) 78 4 (.slice A ts.length c) ts.length (cellsOf ts))
  (xm:∀j,(Value.slice A ts.length c).ownBlock=some j→j<m) (hm6:w.heap.size+6<m) (hmW:m≤W.heap.size) (o:Obj) (hgrow:(W.alloc o).grownBy w4 (Value.slice A ts.length c).ownBlock)
  (hown':w4.ownsRow (w.heap.size+5+2) 78 4 (.slice (some ⟨g',0,none⟩) (ts.length+1) cap') (ts.length+1) (cellsOf ts++cells4 t)) (W':World)
  (e:w4.setCell ⟨w.heap.size+1+1+1,0,none⟩ (.slice (some ⟨g',0,none⟩) (ts.length+1) cap')=W'):
  (W'.heap[w.heap.size+5]?=W.heap[w.heap.size+5]?∧W'.heap[w.heap.size+5+1]?=W.heap[w.heap.size+5+1]?)∧LexI w (w.heap.size+5) s ((ts++[t]).map Y) W'.heap.size W'∧Keep m W W':=by
 subst e
 have hlow:∀k,k<w.heap.size+5+2→k<W.heap.size→w4.heap[k]?=W.heap[k]?:=fun k hk hl=>
  (hgrow.block k (by rw[World.size_alloc];omega) (fun h=>by have:=(xo.lt k h.symm).1;omega)).trans (Below.heap_alloc W o k hl)
 have hkeep:Keep m W w4:=⟨by have:=hgrow.size;rw[World.size_alloc] at this;omega,fun k hk hl=>
  (hgrow.block k (by rw[World.size_alloc];omega) (fun h=>by have:=xm k h.symm;omega)).trans (Below.heap_alloc W o k hl)⟩
 have hbk:∀{k:Nat}{t:TypeId}{cs:Array Value},k<w.heap.size+5+2→Bk W k t cs→Bk w4 k t cs:=fun hk hb=>(hlow _ hk hb.lt).trans hb
 have hset:∀k,k≠w.heap.size+3→(w4.setCell ⟨w.heap.size+1+1+1,0,none⟩ (.slice (some ⟨g',0,none⟩) (ts.length+1) cap')).heap[k]?=w4.heap[k]?:=fun k hk=>Below.heap_setCell w4 ⟨w.heap.size+1+1+1,0,none⟩ _ _ (by simpa using hk)
 have z3:=x3.lt
 have z4:=x4.lt
 have hl:(ts++[t]).length=ts.length+1:=by simp
 have hW:∀k,k<w.heap.size+5+2→k≠w.heap.size+3→(w4.setCell ⟨w.heap.size+1+1+1,0,none⟩ (.slice (some ⟨g',0,none⟩) (ts.length+1) cap')).heap[k]?=W.heap[k]?:=fun k hk hn=>by
  rw[hset k hn]
  exact hlow k hk (by omega)
 refine⟨⟨hW _ (by omega) (by omega),hW _ (by omega) (by omega)⟩,⟨?_, ?_, ?_, ?_, ?_,ts++[t],some ⟨g',0,none⟩,cap',rfl, ?_, ?_, ?_⟩, ?_⟩
 ·exact Rel.setCell (Rel.grown (r0.alloc o) hgrow (fun k h=>by have:=(xo.lt k h).1;omega)) (by simp only;omega) _
 ·exact(hW _ (by omega) (by omega)).trans x0
 ·exact(hW _ (by omega) (by omega)).trans x1
 ·exact(hW _ (by omega) (by omega)).trans x2
 ·exact(hW _ (by omega) (by omega)).trans x4
 ·rw[hl];exact(hbk (by omega) x3).set1 _
 ·have q:=TokOwn.more hown'
  rw[hl]
  exact row_set q (by omega) _
 ·rw[hl]
  intro j hj
  rw[World.size_setCell];exact(hown'.lt j hj).2
 ·exact hkeep.trans (Keep.set w4 (by omega) 0 _)
def LexPostC(l:List UInt8)(w0:World)(e:Ending)(w':World):Prop:=
 ∃(ts:List Tok)(A:Option Addr)(c:Nat)(err place:Int),e= .returned (.tuple #[.slice A ts.length c,yI err,yI place])∧Rel w0 w'∧ToksAt w' A ts∧Out l ts err place∧ts.length≤c∧c≤9223372036854775807
theorem TokOwn.within{w:World}{base:Nat}{A:Option Addr}{c:Nat}{ts:List Tok}(h:TokOwn w base (.slice A ts.length c) ts):ts.length≤c∧c≤9223372036854775807:=by
 have h:w.ownsRow base 78 4 (.slice A ts.length c) ts.length (cellsOf ts):=h
 rcases h.2 with ⟨h0,h1⟩|⟨g,cap,cur,hv,hb,hh,hn,hm,_⟩
 ·injection h0 with _ e1 e2
  omega
 ·injection hv with _ _ e
  unfold maxLen at hm
  omega
theorem lex_any(s:ByteArray)(hs:s.size≤9223372036854775807)(w0 w:World)(hr:Rel w0 w):
  Calls Tryz.prog 54 #[.string s] w (LexPostC s.data.toList w0):=by
 obtain⟨i0,hi,hz0,hz1,hz2⟩:=info_parts tok_info
 have el:s.data.toList.length=s.size:=by simp
 have EL:=yH el
 have HRw:=yH hr
 have HS:=yH hr.self
 have HIT:=yH (fun(b:Nat)(h:s.size≤2000)=>tokens_in 5 (by omega) s h b)
 clear el hr
 by_cases hlong:2000<s.size
 ·clear HIT
  have hlong':(2000:Int)<(s.size:Int):=by omega
  go_enter Tryz.func54,Tryz.ntmps54
  go_wp2_with (fail)
  have r0:=(((Bk.new w 71 #[.slice none 0 0]).alloc (.cells #[yI 60] 31)).alloc (.cells #[yI 2000] 3)).cell 0
  have r1:=((Bk.snd w #[.slice none 0 0] #[yI 60] 71 31).alloc (.cells #[yI 2000] 3)).cell 0
  have r2:=Bk.snd (w.alloc (.cells #[.slice none 0 0] 71)) #[yI 60] #[yI 2000] 31 3
  simp only[World.size_alloc] at r2
  have r2:=r2.cell 0
  simp only[List.getElem?_toArray,List.getElem?_cons_zero] at r0 r1 r2
  exact bodyPost_ret (v:= .tuple #[.slice none 0 0,yI 60,yI 2000]) (by simp[results,Tryz.results54,go_sem,r0,r1,r2]) rfl ⟨[],none,0,60,2000,rfl,((HRw.out.alloc _).alloc _).alloc _,ToksAt.nil _ _,.inl ⟨by rw[EL.out];exact hlong,rfl,rfl,rfl⟩,Nat.le_refl _,by decide⟩
 ·refine(callsIn_wide (n:=6)).1 ?_
  refine callsIn_of_wp_marks Tryz.func54 rfl trivial ?_ rfl
  simp only[Tryz.ntmps54,List.size_toArray,List.length_cons,List.length_nil,Nat.reduceAdd,Nat.reduceSub,Array.replicate_succ,Array.replicate_zero,List.push_toArray,List.append_toArray,List.nil_append,List.cons_append]
  have hl2:(s.size:Int)≤2000:=by omega
  gi_wp2_with (refine⟨trivial, ?_⟩;gi_at_call 73;refine(callsIn_wide.2 (tokens_any s w _ (Rel.trans HS.out ((((HS.out.alloc _).alloc _).alloc _).alloc _)))).mono ?_;rintro e w1 ⟨rfl,rfl⟩)
  obtain⟨Wl,hWl⟩:∃Wl,((((w.alloc (.cells #[.slice none 0 0] 71)).alloc (.cells #[yI 0] 31)).alloc (.cells #[yI 0] 3)).alloc (.cells #[.slice none 0 0] 71)).alloc (.cells #[.string s] 9)=Wl:=⟨_,rfl⟩
  have hsz:Wl.heap.size=w.heap.size+5:=by rw[←hWl];simp only[World.size_alloc]
  have hI0:LexI w (w.heap.size+5) s [] (w.heap.size+7) Wl:=by
   rw[←hWl]
   refine⟨((((HS.out.alloc _).alloc _).alloc _).alloc _).alloc _,((((Bk.new w _ _).alloc _).alloc _).alloc _).alloc _, ?_, ?_, ?_,[],none,0,rfl, ?_,TokOwn.nil _ _,fun j h=>by cases h⟩
   ·exact(((Bk.snd w _ _ _ _).alloc _).alloc _).alloc _
   ·have:=Bk.snd (w.alloc (.cells #[.slice none 0 0] 71)) #[yI 0] #[yI 0] 31 3
    simp only[World.size_alloc] at this
    exact(this.alloc _).alloc _
   ·have:=Bk.snd (((w.alloc (.cells #[.slice none 0 0] 71)).alloc (.cells #[yI 0] 31)).alloc (.cells #[yI 0] 3)) #[.slice none 0 0] #[.string s] 71 9
    simp only[World.size_alloc] at this
    exact this
   ·have:=Bk.snd ((w.alloc (.cells #[.slice none 0 0] 71)).alloc (.cells #[yI 0] 31)) #[yI 0] #[.slice none 0 0] 3 71
    simp only[World.size_alloc] at this
    exact this.alloc _
  have HI0:=yH hI0
  have HSZ:=yH hsz
  rw[hWl]
  have hdl:decide ((2000:Int)<(s.size:Int))=false:=decide_eq_false (by omega)
  rw[hdl]
  clear hWl hI0 hdl
  refine wpIn_iter (n:=6) (by omega) 91 _ Tryz.func91 (enters_of Tryz.func91 (by kernel_rfl) rfl) #[.pointer (some ⟨w.heap.size+1+1+1+1,0,none⟩)] (yields s.data.toList) (fun W=>Tab W∧Bk W (w.heap.size+1+1+1+1) 9 #[.string s]) rfl
   (fun y hy=>by obtain⟨t,ok,rfl,_⟩:=yields_form hy;rfl) (HIT.out _ (by omega)) (LexI w (w.heap.size+5) s) (LexX w s.data.toList) ?Irel ?Iw ?Il ?Ixl ?h0 (LexP w s) ?P1 ?assign ?body ?done ?stop
  case Irel=>exact fun pre m W W' h hr=>h.rel hr
  case Iw=>exact fun pre m W h=>⟨h.1.tab,h.2.2.2.2.1⟩
  case Il=>
   intro pre m W o h
   rw[HSZ.out];exact h.put o
  case Ixl=>
   intro W o h
   rw[HSZ.out];exact h.put o
  case h0=>
   intro o o'
   rw[HSZ.out];exact HI0.out.rel ((HI0.out.1.self.alloc o).alloc o')
  case P1=>
   intro pre y a' W o h
   obtain⟨t,ok,g,h1,h2,h3,h4⟩:=h
   rw[HSZ.out];exact⟨t,ok,g,h1,h2,(put_ne W _ _ o (by omega)).trans h3,h4⟩
  case assign=>
   intro l' pre m y W K hI hrest hlt hK
   obtain⟨rest,hrest⟩:=hrest
   obtain⟨t,ok,rfl,_⟩:=yields_form (y:=y) (l:=s.data.toList) (by rw[hrest];simp)
   gi_wp2
   exact hK _ _ (hI.1.self.alloc _) ⟨t,ok,W.heap.size,rfl,by have:=HSZ.out;omega,Bk.new W _ _,rfl⟩
  case body=>
   rintro l' pre m y a' W ⟨r0,x0,x1,x2,x4,ts,A,c,rfl,x3,xo,xm⟩ hm6 ⟨t,v,g,rfl,hg,hTB,rfl⟩ ⟨rest,hrest⟩ hlt
   obtain⟨t',v',ee,hvv⟩:=yields_form (y:= #[TK t,yI v]) (l:=s.data.toList) (by rw[hrest];simp)
   obtain⟨⟨b0,b1,b2,b3⟩,_⟩:=hTB.four
   have q0:=x0.cell 0
   have q1:=x1.cell 0
   have q2:=x2.cell 0
   have q3:=x3.cell 0
   have f0:=x0.frozen 0
   have f1:=x1.frozen 0
   have f2:=x2.frozen 0
   have f3:=x3.frozen 0
   simp only[List.getElem?_toArray,List.getElem?_cons_zero] at q0 q1 q2 q3
   have et:t=t'∧v=v':=by simp at ee;exact⟨Y_inj (by unfold Y;simp;exact ee.1),ee.2⟩
   obtain⟨rfl,rfl⟩:=et
   clear ee
   rcases hvv with rfl|⟨rfl,k,hk,hkt⟩
   ·have hfew:=yields_few s.data.toList
    rw[hrest,List.length_append,List.length_map,EL.out] at hfew
    have hts:ts.length≤2002:=by omega
    have hszl:=HSZ.out
    have HXO:=yH xo.row
    have HX3:=yH x3
    have HN:=yH (fun(o:Obj)(w4:World)(g' cap':Nat) h1 h2 W' e=>lexi_next (s:=s) (t:=t) (w4:=w4) (g':=g') (cap':=cap') r0 x0 x1 x2 x4 x3 xo.row xm (by omega) hlt o h1 h2 W' e)
    clear x0 x1 x2 x4 xm xo
    gi_wp2_with (gi_at_builtin;refine wpListIn_append_own_at _ rfl _ _ 71 rfl (w.heap.size+5+2) 78 i0 (.agg #[yI 0,.string ⟨#[]⟩,yI 0,yI 0]) 4 40 Tryz.underlying71 hi hz0 hz1 hz2 rfl (by decide) _ ts.length (cellsOf ts) rfl (HXO.out.alloc _) ⟨W.heap.size,0,none⟩ 1 1 (cells4 t) rfl rfl (World.news_of_block (Bk.new W 78 #[yI t.1,.string (B t.2.1),yI t.2.2.1,yI t.2.2.2])) (cells4_one _) (by unfold maxLen;omega) (by omega) (by simp;omega) ?_;intro v' w4 hown' hgrow _ _;obtain⟨g',cap',rfl⟩:=ownsRow_succ hown';have hb4:=(HX3.out.alloc (.cells #[yI t.1,.string (B t.2.1),yI t.2.2.1,yI t.2.2.2] 78)).grown hgrow (fun e=>by have:=(HXO.out.lt _ e.symm).1;omega);have c4:=hb4.cell 0;have f4:=hb4.frozen 0;simp only[List.getElem?_toArray,List.getElem?_cons_zero] at c4)
    have hfin:=HN.out _ _ _ _ hgrow hown' _ rfl
    rw[List.map_append] at hfin
    rw[HSZ.out]
    exact hfin
   ·have HT:=yH (three (p3:=w.heap.size+1+1) (v1:= .slice none 0 0) (v2:=yI 61) (v3:=yI (k:Int)) x0 x1 x2 (by omega) (by omega) (by omega) rfl)
    gi_wp2
    have e0:∀(A:Addr)(v:Value),A.block≠g→∀w':World,(w'.setCell A v).cell? ⟨g,3,none⟩=w'.cell? ⟨g,3,none⟩:=fun A v h w'=>World.cell?_setCell_far w' A ⟨g,3,none⟩ v h
    have g0:=fun v w'=>e0 ⟨w.heap.size,0,none⟩ v (by simp only;omega) w'
    have g1:=fun v w'=>e0 ⟨w.heap.size+1,0,none⟩ v (by simp only;omega) w'
    have g2:=fun v w'=>e0 ⟨w.heap.size+1+1,0,none⟩ v (by simp only;omega) w'
    clear e0
    gi_region
    all_goals
     gi_wp2
     obtain⟨y0,y1,y2,yk,yr⟩:=HT.out
     rw[HSZ.out]
     exact⟨⟨yk _ (by omega) (by omega) (by omega),yk _ (by omega) (by omega) (by omega)⟩,(yr w r0 (Nat.le_refl _) (by omega) (by omega)).drew,k,hk,y0,y1,y2⟩
  case done=>
   rintro m W ⟨r0,x0,x1,x2,x4,ts,A,c,hp,x3,xo,_⟩ hdef
   rename_i K0 a0 _
   show K0 _ W
   refine a0 _ _ ?_
   have c3:=x3.cell 0
   have c0:=x0.cell 0
   have c1:=x1.cell 0
   have c2:=x2.cell 0
   have f0:=x0.frozen 0
   have f1:=x1.frozen 0
   have f2:=x2.frozen 0
   simp only[List.getElem?_toArray,List.getElem?_cons_zero] at c0 c1 c2 c3
   gi_wp2
   have n1:w.heap.size+1≠w.heap.size:=by omega
   have n2:w.heap.size+1+1≠w.heap.size:=by omega
   have n3:w.heap.size+1+1≠w.heap.size+1:=by omega
   have hlx:=yields_full hp
   refine lex_end rfl rfl rfl rfl (D:=w.heap.size+5) (by omega) ?_ (((x0.set_ 0 (.slice A ts.length c)).far (p:=⟨w.heap.size+1,0,none⟩) (Ne.symm n1) _).far (p:=⟨w.heap.size+1+1,0,none⟩) (Ne.symm n2) _) (((x1.far (p:=⟨w.heap.size,0,none⟩) n1 _).set_ 0 (yI 0)).far (p:=⟨w.heap.size+1+1,0,none⟩) (Ne.symm n3) _) (((x2.far (p:=⟨w.heap.size,0,none⟩) n2 _).far (p:=⟨w.heap.size+1,0,none⟩) n3 _).set_ 0 (yI 0)) ?_
   ·rw[HSZ.out] at hdef
    exact(Below.heap_setCell _ ⟨w.heap.size+1+1,0,none⟩ _ _ (by simp only;omega)).trans ((Below.heap_setCell _ ⟨w.heap.size+1,0,none⟩ _ _ (by simp only;omega)).trans ((Below.heap_setCell _ ⟨w.heap.size,0,none⟩ _ _ (by simp only;omega)).trans hdef))
   ·have xo2:TokOwn ((((W.setCell ⟨w.heap.size,0,none⟩ (.slice A ts.length c)).setCell ⟨w.heap.size+1,0,none⟩ (yI 0)).setCell ⟨w.heap.size+1+1,0,none⟩ (yI 0)).putObj (w.heap.size+5) (.deferred none)) (w.heap.size+5+2) (.slice A ts.length c) ts:=
     row_put (row_set (row_set (row_set xo (by omega) _) (by omega) _) (by omega) _) (by omega) _
    refine⟨ts,A,c,0,0,rfl,HRw.out.trans (rel_put (((r0.setCell (p:=⟨w.heap.size,0,none⟩) (Nat.le_refl _) _).setCell (p:=⟨w.heap.size+1,0,none⟩) (by simp only;omega) _).setCell (p:=⟨w.heap.size+1+1,0,none⟩) (by simp only;omega) _) (by omega) _),xo2.toks rfl,.inr (.inl ⟨by rw[EL.out];omega, ?_,rfl,rfl⟩),xo.within.1,xo.within.2⟩
    rw[lx_outP _ _ (Nat.le_refl _),hlx];rfl
  case stop=>
   rintro W ⟨r0,k,hk,x0,x1,x2⟩ hdef
   gi_wp2
   refine lex_end rfl rfl rfl rfl (by rw[HSZ.out];omega) hdef x0 x1 x2 ?_
   refine⟨[],none,0,61,(k:Int),rfl,HRw.out.trans (rel_put r0 (by rw[HSZ.out];omega) _),ToksAt.nil _ _,.inr (.inr ⟨by rw[EL.out];omega,k, ?_,rfl,rfl,rfl⟩),Nat.le_refl _,by decide⟩
   rw[lx_outP _ _ (Nat.le_refl _)]
   unfold outP
   rw[hk]
end Go.Proofs.YtfekhbeaphpelaaGreatDoor

namespace Go.Proofs.YtfekhbeaphpelaaGreatDoor
open Go.RowKit Go.Lib
theorem lx_fineP{s:List UInt8}{ts:List Tok}(h:lx 0 s= .ok ts)(hs:s.length≤2000):FineP ts:=by
 have ho:=lx_okP h
 obtain⟨_,hp,us,hu⟩:=lx_okT h
 obtain⟨vs,hv,hus,_,hlen⟩:=lx_out _ s (Nat.le_refl _) 0 ts h
 refine⟨fun t ht=> ?_,by rw[hv];simp;omega,us,_,hu⟩
 have hpt:=hp t ht
 have hpl:i64 t.2.2.2:=⟨by omega,by omega⟩
 refine⟨ho t ht, ?_⟩
 rw[hv] at ht
 rcases List.mem_append.1 ht with h1|h1
 ·have:=tok_short (hus t h1).1
  exact⟨this.2.1,this.2.2.1,hpl,this.1⟩
 ·simp only[List.mem_cons,List.not_mem_nil,or_false] at h1
  subst h1
  exact⟨show i64 5 from⟨by decide,by decide⟩,show i64 0 from⟨by decide,by decide⟩,hpl,Nat.zero_le _⟩
theorem plex_no{s:ByteArray}(hs:s.size≤9223372036854775807)(cd pl:Int)(h:(2000<s.data.toList.length∧cd=60∧pl=2000)∨(s.data.toList.length≤2000∧∃k:Nat,lx 0 s.data.toList= .error k∧cd=61∧pl=k))(w0 w:World)(hr:Rel w0 w):
  Calls Tryz.prog 54 #[.string s] w fun e w'=>∃(A:Option Addr)(c:Nat),e= .returned (.tuple #[.slice A 0 c,yI cd,yI pl])∧Rel w0 w':=by
 refine(lex_any s hs w0 w hr).mono ?_
 rintro e w' ⟨ts,A,c,err,place,rfl,h1,h2,ho,_,_⟩
 have hd:Out s.data.toList [] cd pl:=by
  rcases h with ⟨a,rfl,rfl⟩|⟨a,k,b,rfl,rfl⟩
  ·exact .inl ⟨a,rfl,rfl,rfl⟩
  ·exact .inr (.inr ⟨a,k,b,rfl,rfl,rfl⟩)
 obtain⟨rfl,rfl,rfl⟩:=ho.det hd
 exact⟨A,c,rfl,h1⟩
theorem plex_yes{s:ByteArray}(hs:s.size≤9223372036854775807)(ts:List Tok)(h2:s.data.toList.length≤2000)(h:lx 0 s.data.toList= .ok ts)(w0 w:World)(hr:Rel w0 w):
  Calls Tryz.prog 54 #[.string s] w fun e w'=>∃(A:Option Addr)(c:Nat),e= .returned (.tuple #[.slice A ts.length c,yI 0,yI 0])∧Rel w0 w'∧ToksAt w' A ts∧ts.length≤c∧c≤9223372036854775807:=by
 refine(lex_any s hs w0 w hr).mono ?_
 rintro e w' ⟨ts',A,c,err,place,rfl,h1,h3,ho,k1,k2⟩
 obtain⟨rfl,rfl,rfl⟩:=ho.det (.inr (.inl ⟨h2,h,rfl,rfl⟩))
 exact⟨A,c,rfl,h1,h3,k1,k2⟩
def ParseOk:Prop:=∀(s:ByteArray),s.size≤9223372036854775807→∀w0 w,Rel w0 w→Calls Tryz.prog 35 #[.string s] w (StrPost (parseS s.data.toList) w0 w.heap.size)
theorem parse_none(s:ByteArray)(hs:s.size≤9223372036854775807)(cd pl:Int)(hcd:(cd !=0)=true)(h:(2000<s.data.toList.length∧cd=60∧pl=2000)∨(s.data.toList.length≤2000∧∃k:Nat,lx 0 s.data.toList= .error k∧cd=61∧pl=k))(hp:parseS s.data.toList= .error (cd,pl))(w0 w:World)(hr:Rel w0 w):
  Calls Tryz.prog 35 #[.string s] w (StrPost (parseS s.data.toList) w0 w.heap.size):=by
 have hA:=hr.self.alloc (.cells #[yI 0,yI 0,.string ⟨#[]⟩,.slice none 0 0] 52)
 have HZ:=yH (Bk.new w 52 #[yI 0,yI 0,.string ⟨#[]⟩,.slice none 0 0])
 have HL:=yH (plex_no hs cd pl h (w.alloc (.cells #[yI 0,yI 0,.string ⟨#[]⟩,.slice none 0 0] 52)) _ hA.self)
 have HA:=yH (hr.trans hA)
 have HP:=yH hp
 have h0w:=hr.size
 clear hr hA h hp
 go_enter Tryz.func35,Tryz.ntmps35
 go_wp2_with (go_at_call 54;(with_reducible refine HL.out.mono ?_);rintro e w2 ⟨A,c,rfl,r2⟩;have R2:=yH r2;obtain⟨⟨b0,b1,b2,b3⟩,u0,u1,u2,u3⟩:=(HZ.out.rel r2).four;clear r2)
 obtain⟨⟨y0,y1,y2,y3⟩,_⟩:=((HZ.out.rel R2.out).put4 (yI 0) (yI 0) (.string ⟨#[]⟩) (.slice none 0 0)).four
 have gp:=put4_grown w2 w.heap.size (yI 0) (yI 0) (.string ⟨#[]⟩) (.slice none 0 0)
 have RW:=(HA.out.trans R2.out).grown gp (fun k e=>by cases e;exact h0w)
 refine bodyPost_ret (v:= .tuple #[EV (0,0,[],none,0,0),yI cd,yI pl]) (by simp[results,Tryz.results35,go_sem,y0,y1,y2,y3];rfl) rfl (StrPost.no HP.out ⟨rfl,RW⟩)
theorem parse_some(s:ByteArray)(hs:s.size≤9223372036854775807)(ts:List Tok)(h2:s.data.toList.length≤2000)(h:lx 0 s.data.toList= .ok ts)(w0 w:World)(hr:Rel w0 w):
  Calls Tryz.prog 35 #[.string s] w (StrPost (parseS s.data.toList) w0 w.heap.size):=by
 have hA:=hr.self.alloc (.cells #[yI 0,yI 0,.string ⟨#[]⟩,.slice none 0 0] 52)
 have HZ:=yH (Bk.new w 52 #[yI 0,yI 0,.string ⟨#[]⟩,.slice none 0 0])
 have HL:=yH (plex_yes hs ts h2 h (w.alloc (.cells #[yI 0,yI 0,.string ⟨#[]⟩,.slice none 0 0] 52)) _ hA.self)
 have HF:=yH (lx_fineP h h2)
 have hp:parseS s.data.toList=stratT ts:=by unfold parseS;rw[if_neg (by omega),h]
 have HA:=yH (hr.trans hA)
 have h0w:=hr.size
 rw[hp]
 clear hr hA h hp
 cases hst:stratT ts with
 |error E=>
  have HSt:=yH hst
  go_enter Tryz.func35,Tryz.ntmps35
  go_wp2_with (first
   |(go_at_call 54;(with_reducible refine HL.out.mono ?_);rintro e w2 ⟨A,c,rfl,r2,t2,k1,k2⟩;have HC:=yH (pstrat_any A c ts HF.out k1 k2 w2 w2 r2.self t2);have R2:=yH r2;clear r2 t2 k1 k2)
   |(go_at_call 55;(with_reducible refine HC.out.mono ?_);rintro e w3 h3;rw[HSt.out] at h3;obtain⟨rfl,r3⟩:=h3;have R3:=yH r3;obtain⟨⟨b0,b1,b2,b3⟩,u0,u1,u2,u3⟩:=(HZ.out.rel (R2.out.trans r3)).four;clear r3))
  obtain⟨⟨y0,y1,y2,y3⟩,_⟩:=((HZ.out.rel (R2.out.trans R3.out)).put4 (yI 0) (yI 0) (.string (B [])) (.slice none 0 0)).four
  have gp:=put4_grown w3 w.heap.size (yI 0) (yI 0) (.string (B [])) (.slice none 0 0)
  have RW:=(HA.out.trans (R2.out.trans R3.out)).grown gp (fun k e=>by cases e;exact h0w)
  refine bodyPost_ret (v:= .tuple #[EV (0,0,[],none,0,0),yI E.1,yI E.2]) (by simp[results,Tryz.results35,go_sem,y0,y1,y2,y3]) rfl (StrPost.no rfl ⟨rfl,RW⟩)
 |ok x=>
  have HSt:=yH hst
  go_enter Tryz.func35,Tryz.ntmps35
  go_wp2_with (first
   |(go_at_call 54;(with_reducible refine HL.out.mono ?_);rintro e w2 ⟨A,c,rfl,r2,t2,k1,k2⟩;have HC:=yH (pstrat_any A c ts HF.out k1 k2 w2 w2 r2.self t2);have R2:=yH r2;clear r2 t2 k1 k2)
   |(go_at_call 55;(with_reducible refine HC.out.mono ?_);rintro e w3 h3;rw[HSt.out] at h3;obtain⟨v,rfl,ex,r3⟩:=h3;have HEx:=yH ex;have R3:=yH r3;obtain⟨⟨b0,b1,b2,b3⟩,u0,u1,u2,u3⟩:=(HZ.out.rel (R2.out.trans r3)).four;clear r3 ex))
  obtain⟨⟨y0,y1,y2,y3⟩,_⟩:=((HZ.out.rel (R2.out.trans R3.out)).put4 (yI v.1) (yI v.2.1) (.string (B v.2.2.1)) (.slice v.2.2.2.1 v.2.2.2.2.1 v.2.2.2.2.2)).four
  have gp:=put4_grown w3 w.heap.size (yI v.1) (yI v.2.1) (.string (B v.2.2.1)) (.slice v.2.2.2.1 v.2.2.2.2.1 v.2.2.2.2.2)
  have RW:=(HA.out.trans (R2.out.trans R3.out)).grown gp (fun k e=>by cases e;exact h0w)
  refine bodyPost_ret (v:= .tuple #[EV v,yI 0,yI 0]) (by simp[results,Tryz.results35,go_sem,y0,y1,y2,y3]) rfl (StrPost.yes rfl ⟨v,rfl,HEx.out.grown gp (fun k hk=>by have:=R2.out.size;rw[World.size_alloc] at this;exact⟨by omega,fun e=>by injection e;omega⟩),RW⟩)
theorem parseOk:ParseOk:=fun s hs w0 w hr=>by
 by_cases hl:2000<s.data.toList.length
 ·exact parse_none s hs 60 2000 rfl (.inl ⟨hl,rfl,rfl⟩) (by unfold parseS;rw[if_pos hl]) w0 w hr
 ·cases hx:lx 0 s.data.toList with
  |error k=>exact parse_none s hs 61 k rfl (.inr ⟨by omega,k,hx,rfl,rfl⟩) (by unfold parseS;rw[if_neg hl,hx]) w0 w hr
  |ok ts=>exact parse_some s hs ts (by omega) hx w0 w hr
theorem len_le:∀l:List Ex,l.length≤sizes l:=fun l=>by
 induction l with
 |nil=>simp
 |cons x t ih=>rw[sizes_cons,List.length_cons];have:=size_pos x;omega
end Go.Proofs.YtfekhbeaphpelaaGreatDoor
