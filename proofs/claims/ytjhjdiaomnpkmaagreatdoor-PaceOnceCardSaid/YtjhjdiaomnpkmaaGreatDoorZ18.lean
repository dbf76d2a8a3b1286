/- What Lex keeps from round to round. -/

import Derived.Test.YtjhjdiaomnpkmaaGreatDoorZ07
import Derived.Test.YtjhjdiaomnpkmaaGreatDoorZ17
set_option maxRecDepth 100000
set_option maxHeartbeats 8000000
set_option linter.unusedVariables false
set_option linter.unusedSimpArgs false
namespace Go.Proofs.YtjhjdiaomnpkmaaGreatDoor
open Go.RowKit
open Go.Lib
attribute [local go_sem] Oper.semAt_some
theorem tokens_any(s:ByteArray)(w0 w:World)(hr:Rel w0 w):Calls Tryz.prog 74 #[.string s] w fun e w'=>e= .returned (.func (.func 83) #[] #[.pointer (some ⟨w.heap.size,0,none⟩)])∧w'=w.alloc (.cells #[.string s] 9):=by
 go_enter Tryz.func74,Tryz.ntmps74
 go_wp2
 go_ret
 exact⟨rfl,rfl⟩
def LexI(w:World)(D:Nat)(s:ByteArray)(pre:List (Array Value))(m:Nat)(W:World):Prop:=
 Rel w W∧Bk W w.heap.size 80 #[.slice none 0 0]∧Bk W (w.heap.size+1) 49 #[.int .i64 0]∧Bk W (w.heap.size+2) 3 #[.int .i64 0]∧Bk W (w.heap.size+4) 9 #[.string s]∧
 ∃(ts:List Tok)(A:Option Addr)(c:Nat),pre=ts.map Y∧Bk W (w.heap.size+3) 80 #[.slice A ts.length c]∧TokOwn W (D+2) (.slice A ts.length c) ts∧∀j,(Value.slice A ts.length c).ownBlock=some j→j<m
def LexX(w:World)(l:List UInt8)(W:World):Prop:=
 Rel w W∧∃(k:Nat),(lxP 0 l).2=some k∧Bk W w.heap.size 80 #[.slice none 0 0]∧Bk W (w.heap.size+1) 49 #[.int .i64 61]∧Bk W (w.heap.size+2) 3 #[.int .i64 (k:Int)]
theorem yields_form{l:List UInt8}{y:Array Value}(h:y∈yields l):∃(t:Tok)(v:Int),y= #[TK t,.int .i64 v]∧(v=0∨(v=61∧∃k:Nat,(lxP 0 l).2=some k∧t.2.2.2=(k:Int))):=by
 unfold yields at h
 rcases List.mem_append.1 h with h|h
 ·obtain⟨t,_,rfl⟩:=List.mem_map.1 h
  exact⟨t,0,rfl,.inl rfl⟩
 ·cases hk:(lxP 0 l).2 with
  |none=>rw[hk] at h;cases h
  |some k=>rw[hk] at h;rw[List.mem_singleton.1 h];exact⟨_,61,rfl,.inr ⟨rfl,k,rfl,rfl⟩⟩
theorem row_put{W:World}{b k n:Nat}{v:Value}{xs:List Value}(h:W.ownsRow b 87 4 v n xs)(hk:k<b)(o:Obj):(W.putObj k o).ownsRow b 87 4 v n xs:=
 h.kept (grownBy_putObj' W k o) (by
  cases hv:v.ownBlock with
  |none=>exact .inl rfl
  |some j=>exact .inr (fun e=>by have:=(h.lt j hv).1;injection e with e;omega))
theorem row_set{W:World}{b k n:Nat}{v:Value}{xs:List Value}(h:W.ownsRow b 87 4 v n xs)(hk:k<b)(u:Value):(W.setCell ⟨k,0,none⟩ u).ownsRow b 87 4 v n xs:=
 own_set h (fun e=>by have:=(h.lt _ e.symm).1;simp only at this;omega) u
def LexP(w:World)(s:ByteArray)(_:List (Array Value))(y:Array Value)(a':Act)(W:World):Prop:=
 ∃(t:Tok)(v:Int)(g:Nat),y= #[TK t,.int .i64 v]∧w.heap.size+6<g∧TB W g t∧a'={tmps:= #[.string s,undef,.pointer (some ⟨w.heap.size,0,none⟩),.pointer (some ⟨w.heap.size+1,0,none⟩),.pointer (some ⟨w.heap.size+1+1,0,none⟩),.pointer (some ⟨w.heap.size+1+1+1,0,none⟩),.pointer (some ⟨g,0,none⟩),.int .i64 v,
  .string s,.int .i64 (s.size:Int),.bool false,.string s,.func (.func 83) #[] #[.pointer (some ⟨w.heap.size+1+1+1+1,0,none⟩)],TK t,.int .i64 v,undef,undef,undef,undef,undef,undef,undef,undef,undef,undef],defers:=[]}
theorem lxP_few:∀(m:Nat)(l:List UInt8),l.length≤m→∀p:Nat,(lxP p l).1.length≤l.length+1:=by
 intro m
 induction m with
 |zero=>
  intro s hs p
  obtain rfl:s=[]:=List.length_eq_zero_iff.1 (by omega)
  rw[lxP_nil];simp
 |succ m ih=>
  intro s hs p
  cases s with
  |nil=>rw[lxP_nil];simp
  |cons c t=>
   simp only[List.length_cons] at hs⊢
   cases hb:isBl c
   ·cases hg:isSg c
    ·cases hn:tokOf ((c::t).takeWhile isPt) with
     |none=>rw[lxP_bad _ c t hb hg hn];simp
     |some kn=>
      obtain⟨k,j⟩:=kn
      have hx:=tokOf_ne hn
      have h2:=run_len (c::t)
      have h3:1≤((c::t).takeWhile isPt).length:=by
       rcases hx':(c::t).takeWhile isPt with _|⟨a,b⟩
       ·exact absurd hx' hx
       ·simp
      simp only[List.length_cons] at h2
      rw[lxP_tok _ c t k j hb hg hn]
      have:=ih ((c::t).dropWhile isPt) (by omega) (p+((c::t).takeWhile isPt).length)
      simp only[List.length_cons];omega
    ·rw[lxP_sign _ c t hb hg]
     have:=ih t (by omega) (p+1)
     simp only[List.length_cons];omega
   ·rw[lxP_blank _ c t hb]
    have:=ih t (by omega) (p+1)
    omega
theorem yields_few(l:List UInt8):(yields l).length≤l.length+2:=by
 have:=lxP_few _ l (Nat.le_refl _) 0
 unfold yields
 rw[List.length_append,List.length_map]
 split
 ·simp;omega
 ·simp;omega
theorem Bk.set1{w:World}{g:Nat}{t:TypeId}{x:Value}(h:Bk w g t #[x])(v:Value):Bk (w.setCell ⟨g,0,none⟩ v) g t #[v]:=h.set_ 0 v
theorem B_inj{a b:List UInt8}(h:B a=B b):a=b:=by rw[←B_list a,h,B_list]
theorem Y_inj{t t':Tok}(h:Y t=Y t'):t=t':=by
 obtain⟨k,x,n,p⟩:=t
 obtain⟨k',x',n',p'⟩:=t'
 unfold Y at h
 simp at h
 obtain⟨h1,h2,h3,h4⟩:=h
 rw[h1,B_inj h2,h3,h4]
theorem map_Y_inj:∀{a b:List Tok},a.map Y=b.map Y→a=b
 |[],[],_=>rfl
 |[],_::_,h=>by cases h
 |_::_,[],h=>by cases h
 |x::a,y::b,h=>by
  simp only[List.map_cons,List.cons.injEq] at h
  rw[Y_inj h.1,map_Y_inj h.2]
theorem yields_full{l:List UInt8}{ts:List Tok}(h:yields l=ts.map Y):lxP 0 l=(ts,none):=by
 unfold yields at h
 cases hk:(lxP 0 l).2 with
 |none=>
  rw[hk,List.append_nil] at h
  exact Prod.ext (map_Y_inj h) hk
 |some k=>
  rw[hk] at h
  have hm:(#[TK (0,[],0,(k:Int)),Value.int .i64 61]:Array Value)∈ts.map Y:=by rw[←h];simp
  obtain⟨t,_,e⟩:=List.mem_map.1 hm
  unfold Y at e
  simp at e
theorem LexI.rel{w:World}{D m:Nat}{s:ByteArray}{pre:List (Array Value)}{W W':World}(h:LexI w D s pre m W)(hr:Rel W W'):LexI w D s pre m W':=by
 obtain⟨r0,x0,x1,x2,x4,ts,A,c,hp,x3,xo,xm⟩:=h
 exact⟨r0.trans hr,x0.rel hr,x1.rel hr,x2.rel hr,x4.rel hr,ts,A,c,hp,x3.rel hr,xo.rel hr,xm⟩
theorem LexI.put{w:World}{m:Nat}{s:ByteArray}{pre:List (Array Value)}{W:World}(h:LexI w (w.heap.size+5) s pre m W)(o:Obj):LexI w (w.heap.size+5) s pre m (W.putObj (w.heap.size+6) o):=by
 obtain⟨r0,x0,x1,x2,x4,ts,A,c,hp,x3,xo,xm⟩:=h
 exact⟨rel_put r0 (by omega) o,(put_ne W _ _ o (by omega)).trans x0,(put_ne W _ _ o (by omega)).trans x1,(put_ne W _ _ o (by omega)).trans x2,(put_ne W _ _ o (by omega)).trans x4,ts,A,c,hp,(put_ne W _ _ o (by omega)).trans x3,row_put xo (by omega) o,xm⟩
theorem LexX.put{w:World}{l:List UInt8}{W:World}(h:LexX w l W)(o:Obj):LexX w l (W.putObj (w.heap.size+6) o):=by
 obtain⟨r0,k,hk,x0,x1,x2⟩:=h
 exact⟨rel_put r0 (by omega) o,k,hk,(put_ne W _ _ o (by omega)).trans x0,(put_ne W _ _ o (by omega)).trans x1,(put_ne W _ _ o (by omega)).trans x2⟩
theorem lex_end{W:World}{rb D:Nat}{V:Value}{x y:Int}{R:Ending→World→Prop}{a:Act}(h2:a.tmps.getD 2 undef= .pointer (some ⟨rb,0,none⟩))(h3:a.tmps.getD 3 undef= .pointer (some ⟨rb+1,0,none⟩))(h4:a.tmps.getD 4 undef= .pointer (some ⟨rb+1+1,0,none⟩))
  (hd:a.defers=[{target:= .collected D,args:= #[]}]) (hD:rb+2<D) (hK:W.heap[D]?=some (.deferred (some []))) (hb:Bk W rb 80 #[V]) (hc:Bk W (rb+1) 49 #[.int .i64 x]) (hc2:Bk W (rb+1+1) 3 #[.int .i64 y])
  (hR:R (.returned (.tuple #[V,.int .i64 x,.int .i64 y])) (W.putObj D (.deferred none))):bodyPostM Fence.wide 6 Tryz.prog Tryz.f65 R .ret a W:=by
 show LeavesInM Fence.wide 6 Tryz.prog Tryz.f65 a.tmps R a.defers .returning W
 rw[hd]
 refine⟨by simp,.inl ⟨_,_,rfl,run_takeDeferred hK, ?_⟩⟩
 have c0:=Bk.cell (show Bk (W.putObj D (.deferred none)) rb 80 #[V] from(put_ne W D rb _ (by omega)).trans hb) 0
 have c1:=Bk.cell (show Bk (W.putObj D (.deferred none)) (rb+1) 49 #[.int .i64 x] from(put_ne W D (rb+1) _ (by omega)).trans hc) 0
 have c2:=Bk.cell (show Bk (W.putObj D (.deferred none)) (rb+1+1) 3 #[.int .i64 y] from(put_ne W D (rb+1+1) _ (by omega)).trans hc2) 0
 simp only[List.getElem?_toArray,List.getElem?_cons_zero] at c0 c1 c2
 have h2':a.tmps[2]?.getD undef= .pointer (some ⟨rb,0,none⟩):=by simpa using h2
 have h3':a.tmps[3]?.getD undef= .pointer (some ⟨rb+1,0,none⟩):=by simpa using h3
 have h4':a.tmps[4]?.getD undef= .pointer (some ⟨rb+1+1,0,none⟩):=by simpa using h4
 refine⟨_, ?_,hR⟩
 simp[results,Tryz.f65,go_sem,h2',h3',h4',c0,c1,c2]
theorem three{W W':World}{p1 p2 p3:Nat}{t1 t2 t3:TypeId}{u1 u2 u3 v1 v2 v3:Value}(h1:Bk W p1 t1 #[u1])(h2:Bk W p2 t2 #[u2])(h3:Bk W p3 t3 #[u3])(n12:p1≠p2)(n13:p1≠p3)(n23:p2≠p3)
  (e:(((W.setCell ⟨p1,0,none⟩ v1).setCell ⟨p2,0,none⟩ v2).setCell ⟨p3,0,none⟩ v3)=W'):
  Bk W' p1 t1 #[v1]∧Bk W' p2 t2 #[v2]∧Bk W' p3 t3 #[v3]∧(∀k,k≠p1→k≠p2→k≠p3→W'.heap[k]?=W.heap[k]?)∧(∀w,Rel w W→w.heap.size≤p1→w.heap.size≤p2→w.heap.size≤p3→Rel w W'):=by
 subst e
 refine⟨?_, ?_, ?_, ?_, ?_⟩
 ·exact((h1.set1 v1).far (p:=⟨p2,0,none⟩) n12 _).far (p:=⟨p3,0,none⟩) n13 _
 ·exact((h2.far (p:=⟨p1,0,none⟩) (Ne.symm n12) _).set1 v2).far (p:=⟨p3,0,none⟩) n23 _
 ·exact((h3.far (p:=⟨p1,0,none⟩) (Ne.symm n13) _).far (p:=⟨p2,0,none⟩) (Ne.symm n23) _).set1 v3
 ·intro k k1 k2 k3
  exact(Below.heap_setCell _ ⟨p3,0,none⟩ _ _ (by simpa using k3)).trans ((Below.heap_setCell _ ⟨p2,0,none⟩ _ _ (by simpa using k2)).trans (Below.heap_setCell _ ⟨p1,0,none⟩ _ _ (by simpa using k1)))
 ·intro w hr a b c
  exact((hr.setCell (p:=⟨p1,0,none⟩) a _).setCell (p:=⟨p2,0,none⟩) b _).setCell (p:=⟨p3,0,none⟩) c _
theorem lexi_next{w W w4:World}{s:ByteArray}{m:Nat}{ts:List Tok}{A:Option Addr}{c:Nat}{t:Tok}{g' cap':Nat}(r0:Rel w W)(x0:Bk W w.heap.size 80 #[.slice none 0 0])(x1:Bk W (w.heap.size+1) 49 #[.int .i64 0])(x2:Bk W (w.heap.size+2) 3 #[.int .i64 0])
  (x4:Bk W (w.heap.size+4) 9 #[.string s]) (x3:Bk W (w.heap.size+3) 80 #[.slice A ts.length c]) (xo:W.ownsRow (w.heap.size+5+2) 87 4 (.slice A ts.length c) ts.length (cellsOf ts))
  (xm:∀j,(Value.slice A ts.length c).ownBlock=some j→j<m) (hm6:w.heap.size+6<m) (hmW:m≤W.heap.size) (o:Obj) (hgrow:(W.alloc o).grownBy w4 (Value.slice A ts.length c).ownBlock)
  (hown':w4.ownsRow (w.heap.size+5+2) 87 4 (.slice (some ⟨g',0,none⟩) (ts.length+1) cap') (ts.length+1) (cellsOf ts++cells4 t)) (W':World)
  (e:w4.setCell ⟨w.heap.size+1+1+1,0,none⟩ (.slice (some ⟨g',0,none⟩) (ts.length+1) cap')=W'):
  (W'.heap[w.heap.size+5]?=W.heap[w.heap.size+5]?∧W'.heap[w.heap.size+5+1]?=W.heap[w.heap.size+5+1]?)∧LexI w (w.heap.size+5) s ((ts++[t]).map Y) W'.heap.size W'∧Keep m W W':=by
 subst e
 have hlow:∀k,k<w.heap.size+5+2→k<W.heap.size→w4.heap[k]?=W.heap[k]?:=fun k hk hl=>
  (hgrow.block k (by rw[World.size_alloc];omega) (fun h=>by have:=(xo.lt k h.symm).1;omega)).trans (Below.heap_alloc W o k hl)
 have hkeep:Keep m W w4:=⟨by have:=hgrow.size;rw[World.size_alloc] at this;omega,fun k hk hl=>
  (hgrow.block k (by rw[World.size_alloc];omega) (fun h=>by have:=xm k h.symm;omega)).trans (Below.heap_alloc W o k hl)⟩
 have hbk:∀{k:Nat}{t:TypeId}{cs:Array Value},k<w.heap.size+5+2→Bk W k t cs→Bk w4 k t cs:=fun hk hb=>(hlow _ hk hb.lt).trans hb
 have hset:∀k,k≠w.heap.size+3→(w4.setCell ⟨w.heap.size+1+1+1,0,none⟩ (.slice (some ⟨g',0,none⟩) (ts.length+1) cap')).heap[k]?=w4.heap[k]?:=fun k hk=>Below.heap_setCell w4 ⟨w.heap.size+1+1+1,0,none⟩ _ _ (by simpa using hk)
 have z3:=x3.lt
 have z4:=x4.lt
 have hl:(ts++[t]).length=ts.length+1:=by simp
 have hW:∀k,k<w.heap.size+5+2→k≠w.heap.size+3→(w4.setCell ⟨w.heap.size+1+1+1,0,none⟩ (.slice (some ⟨g',0,none⟩) (ts.length+1) cap')).heap[k]?=W.heap[k]?:=fun k hk hn=>by
  rw[hset k hn]
  exact hlow k hk (by omega)
 refine⟨⟨hW _ (by omega) (by omega),hW _ (by omega) (by omega)⟩,⟨?_, ?_, ?_, ?_, ?_,ts++[t],some ⟨g',0,none⟩,cap',rfl, ?_, ?_, ?_⟩, ?_⟩
 ·exact Rel.setCell (Rel.grown (r0.alloc o) hgrow (fun k h=>by have:=(xo.lt k h).1;omega)) (by simp only;omega) _
 ·exact(hW _ (by omega) (by omega)).trans x0
 ·exact(hW _ (by omega) (by omega)).trans x1
 ·exact(hW _ (by omega) (by omega)).trans x2
 ·exact(hW _ (by omega) (by omega)).trans x4
 ·rw[hl];exact(hbk (by omega) x3).set1 _
 ·have q:=TokOwn.more hown'
  rw[hl]
  exact row_set q (by omega) _
 ·rw[hl]
  intro j hj
  rw[World.size_setCell];exact(hown'.lt j hj).2
 ·exact hkeep.trans (Keep.set w4 (by omega) 0 _)
def LexPostC(l:List UInt8)(w0:World)(e:Ending)(w':World):Prop:=
 ∃(ts:List Tok)(A:Option Addr)(c:Nat)(err place:Int),e= .returned (.tuple #[.slice A ts.length c,.int .i64 err,.int .i64 place])∧Rel w0 w'∧ToksAt w' A ts∧Out l ts err place∧ts.length≤c∧c≤9223372036854775807
theorem TokOwn.within{w:World}{base:Nat}{A:Option Addr}{c:Nat}{ts:List Tok}(h:TokOwn w base (.slice A ts.length c) ts):ts.length≤c∧c≤9223372036854775807:=by
 have h:w.ownsRow base 87 4 (.slice A ts.length c) ts.length (cellsOf ts):=h
 rcases h.2 with ⟨h0,h1⟩|⟨g,cap,cur,hv,hb,hh,hn,hm,_⟩
 ·injection h0 with _ e1 e2
  omega
 ·injection hv with _ _ e
  unfold maxLen at hm
  omega
theorem lex_any(s:ByteArray)(hs:s.size≤9223372036854775807)(w0 w:World)(hr:Rel w0 w):
  Calls Tryz.prog 65 #[.string s] w (LexPostC s.data.toList w0):=by
 obtain⟨i0,hi,hz0,hz1,hz2⟩:=info_parts tok_info
 have el:s.data.toList.length=s.size:=by simp
 have EL:=yH el
 have HRw:=yH hr
 have HS:=yH hr.self
 have HIT:=yH (fun(b:Nat)(h:s.size≤2000)=>tokens_in 5 (by omega) s h b)
 clear el hr
 by_cases hlong:2000<s.size
 ·clear HIT
  have hlong':(2000:Int)<(s.size:Int):=by omega
  go_enter Tryz.func65,Tryz.ntmps65
  go_wp2_with (fail)
  have r0:=(((Bk.new w 80 #[.slice none 0 0]).alloc (.cells #[.int .i64 60] 49)).alloc (.cells #[.int .i64 2000] 3)).cell 0
  have r1:=((Bk.snd w #[.slice none 0 0] #[.int .i64 60] 80 49).alloc (.cells #[.int .i64 2000] 3)).cell 0
  have r2:=Bk.snd (w.alloc (.cells #[.slice none 0 0] 80)) #[.int .i64 60] #[.int .i64 2000] 49 3
  simp only[World.size_alloc] at r2
  have r2:=r2.cell 0
  simp only[List.getElem?_toArray,List.getElem?_cons_zero] at r0 r1 r2
  exact bodyPost_ret (v:= .tuple #[.slice none 0 0,.int .i64 60,.int .i64 2000]) (by simp[results,Tryz.results65,go_sem,r0,r1,r2]) rfl ⟨[],none,0,60,2000,rfl,((HRw.out.alloc _).alloc _).alloc _,ToksAt.nil _ _,.inl ⟨by rw[EL.out];exact hlong,rfl,rfl,rfl⟩,Nat.le_refl _,by decide⟩
 ·refine(callsIn_wide (n:=6)).1 ?_
  refine callsIn_of_wp_marks Tryz.func65 rfl trivial ?_ rfl
  simp only[Tryz.ntmps65,List.size_toArray,List.length_cons,List.length_nil,Nat.reduceAdd,Nat.reduceSub,Array.replicate_succ,Array.replicate_zero,List.push_toArray,List.append_toArray,List.nil_append,List.cons_append]
  have hl2:(s.size:Int)≤2000:=by omega
  gi_wp2_with (refine⟨trivial, ?_⟩;gi_at_call 74;refine(callsIn_wide.2 (tokens_any s w _ (Rel.trans HS.out ((((HS.out.alloc _).alloc _).alloc _).alloc _)))).mono ?_;rintro e w1 ⟨rfl,rfl⟩)
  obtain⟨Wl,hWl⟩:∃Wl,((((w.alloc (.cells #[.slice none 0 0] 80)).alloc (.cells #[.int .i64 0] 49)).alloc (.cells #[.int .i64 0] 3)).alloc (.cells #[.slice none 0 0] 80)).alloc (.cells #[.string s] 9)=Wl:=⟨_,rfl⟩
  have hsz:Wl.heap.size=w.heap.size+5:=by rw[←hWl];simp only[World.size_alloc]
  have hI0:LexI w (w.heap.size+5) s [] (w.heap.size+7) Wl:=by
   rw[←hWl]
   refine⟨((((HS.out.alloc _).alloc _).alloc _).alloc _).alloc _,((((Bk.new w _ _).alloc _).alloc _).alloc _).alloc _, ?_, ?_, ?_,[],none,0,rfl, ?_,TokOwn.nil _ _,fun j h=>by cases h⟩
   ·exact(((Bk.snd w _ _ _ _).alloc _).alloc _).alloc _
   ·have:=Bk.snd (w.alloc (.cells #[.slice none 0 0] 80)) #[.int .i64 0] #[.int .i64 0] 49 3
    simp only[World.size_alloc] at this
    exact(this.alloc _).alloc _
   ·have:=Bk.snd (((w.alloc (.cells #[.slice none 0 0] 80)).alloc (.cells #[.int .i64 0] 49)).alloc (.cells #[.int .i64 0] 3)) #[.slice none 0 0] #[.string s] 80 9
    simp only[World.size_alloc] at this
    exact this
   ·have:=Bk.snd ((w.alloc (.cells #[.slice none 0 0] 80)).alloc (.cells #[.int .i64 0] 49)) #[.int .i64 0] #[.slice none 0 0] 3 80
    simp only[World.size_alloc] at this
    exact this.alloc _
  have HI0:=yH hI0
  have HSZ:=yH hsz
  rw[hWl]
  have hdl:decide ((2000:Int)<(s.size:Int))=false:=decide_eq_false (by omega)
  rw[hdl]
  clear hWl hI0 hdl
  refine wpIn_iter (n:=6) (by omega) 83 _ Tryz.func83 (enters_of Tryz.func83 (by kernel_rfl) rfl) #[.pointer (some ⟨w.heap.size+1+1+1+1,0,none⟩)] (yields s.data.toList) (fun W=>Tab W∧Bk W (w.heap.size+1+1+1+1) 9 #[.string s]) rfl
   (fun y hy=>by obtain⟨t,ok,rfl,_⟩:=yields_form hy;rfl) (HIT.out _ (by omega)) (LexI w (w.heap.size+5) s) (LexX w s.data.toList) ?Irel ?Iw ?Il ?Ixl ?h0 (LexP w s) ?P1 ?assign ?body ?done ?stop
  case Irel=>exact fun pre m W W' h hr=>h.rel hr
  case Iw=>exact fun pre m W h=>⟨h.1.tab,h.2.2.2.2.1⟩
  case Il=>
   intro pre m W o h
   rw[HSZ.out];exact h.put o
  case Ixl=>
   intro W o h
   rw[HSZ.out];exact h.put o
  case h0=>
   intro o o'
   rw[HSZ.out];exact HI0.out.rel ((HI0.out.1.self.alloc o).alloc o')
  case P1=>
   intro pre y a' W o h
   obtain⟨t,ok,g,h1,h2,h3,h4⟩:=h
   rw[HSZ.out];exact⟨t,ok,g,h1,h2,(put_ne W _ _ o (by omega)).trans h3,h4⟩
  case assign=>
   intro l' pre m y W K hI hrest hlt hK
   obtain⟨rest,hrest⟩:=hrest
   obtain⟨t,ok,rfl,_⟩:=yields_form (y:=y) (l:=s.data.toList) (by rw[hrest];simp)
   gi_wp2
   exact hK _ _ (hI.1.self.alloc _) ⟨t,ok,W.heap.size,rfl,by have:=HSZ.out;omega,Bk.new W _ _,rfl⟩
  case body=>
   rintro l' pre m y a' W ⟨r0,x0,x1,x2,x4,ts,A,c,rfl,x3,xo,xm⟩ hm6 ⟨t,v,g,rfl,hg,hTB,rfl⟩ ⟨rest,hrest⟩ hlt
   obtain⟨t',v',ee,hvv⟩:=yields_form (y:= #[TK t,.int .i64 v]) (l:=s.data.toList) (by rw[hrest];simp)
   obtain⟨⟨b0,b1,b2,b3⟩,_⟩:=hTB.four
   have q0:=x0.cell 0
   have q1:=x1.cell 0
   have q2:=x2.cell 0
   have q3:=x3.cell 0
   have f0:=x0.frozen 0
   have f1:=x1.frozen 0
   have f2:=x2.frozen 0
   have f3:=x3.frozen 0
   simp only[List.getElem?_toArray,List.getElem?_cons_zero] at q0 q1 q2 q3
   have et:t=t'∧v=v':=by simp at ee;exact⟨Y_inj (by unfold Y;simp;exact ee.1),ee.2⟩
   obtain⟨rfl,rfl⟩:=et
   clear ee
   rcases hvv with rfl|⟨rfl,k,hk,hkt⟩
   ·have hfew:=yields_few s.data.toList
    rw[hrest,List.length_append,List.length_map,EL.out] at hfew
    have hts:ts.length≤2002:=by omega
    have hszl:=HSZ.out
    have HXO:=yH xo.row
    have HX3:=yH x3
    have HN:=yH (fun(o:Obj)(w4:World)(g' cap':Nat) h1 h2 W' e=>lexi_next (s:=s) (t:=t) (w4:=w4) (g':=g') (cap':=cap') r0 x0 x1 x2 x4 x3 xo.row xm (by omega) hlt o h1 h2 W' e)
    clear x0 x1 x2 x4 xm xo
    gi_wp2_with (gi_at_builtin;refine wpListIn_append_own_at _ rfl _ _ 80 rfl (w.heap.size+5+2) 87 i0 (.agg #[.int .i64 0,.string ⟨#[]⟩,.int .i64 0,.int .i64 0]) 4 40 Tryz.underlying80 hi hz0 hz1 hz2 rfl (by decide) _ ts.length (cellsOf ts) rfl (HXO.out.alloc _) ⟨W.heap.size,0,none⟩ 1 1 (cells4 t) rfl rfl (World.news_of_block (Bk.new W 87 #[.int .i64 t.1,.string (B t.2.1),.int .i64 t.2.2.1,.int .i64 t.2.2.2])) (cells4_one _) (by unfold maxLen;omega) (by omega) (by simp;omega) ?_;intro v' w4 hown' hgrow _ _;obtain⟨g',cap',rfl⟩:=ownsRow_succ hown';have hb4:=(HX3.out.alloc (.cells #[.int .i64 t.1,.string (B t.2.1),.int .i64 t.2.2.1,.int .i64 t.2.2.2] 87)).grown hgrow (fun e=>by have:=(HXO.out.lt _ e.symm).1;omega);have c4:=hb4.cell 0;have f4:=hb4.frozen 0;simp only[List.getElem?_toArray,List.getElem?_cons_zero] at c4)
    have hfin:=HN.out _ _ _ _ hgrow hown' _ rfl
    rw[List.map_append] at hfin
    rw[HSZ.out]
    exact hfin
   ·have HT:=yH (three (p3:=w.heap.size+1+1) (v1:= .slice none 0 0) (v2:= .int .i64 61) (v3:= .int .i64 (k:Int)) x0 x1 x2 (by omega) (by omega) (by omega) rfl)
    gi_wp2
    have e0:∀(A:Addr)(v:Value),A.block≠g→∀w':World,(w'.setCell A v).cell? ⟨g,3,none⟩=w'.cell? ⟨g,3,none⟩:=fun A v h w'=>World.cell?_setCell_far w' A ⟨g,3,none⟩ v h
    have g0:=fun v w'=>e0 ⟨w.heap.size,0,none⟩ v (by simp only;omega) w'
    have g1:=fun v w'=>e0 ⟨w.heap.size+1,0,none⟩ v (by simp only;omega) w'
    have g2:=fun v w'=>e0 ⟨w.heap.size+1+1,0,none⟩ v (by simp only;omega) w'
    clear e0
    gi_region
    all_goals
     gi_wp2
     obtain⟨y0,y1,y2,yk,yr⟩:=HT.out
     rw[HSZ.out]
     exact⟨⟨yk _ (by omega) (by omega) (by omega),yk _ (by omega) (by omega) (by omega)⟩,(yr w r0 (Nat.le_refl _) (by omega) (by omega)).drew,k,hk,y0,y1,y2⟩
  case done=>
   rintro m W ⟨r0,x0,x1,x2,x4,ts,A,c,hp,x3,xo,_⟩ hdef
   rename_i K0 a0 _
   show K0 _ W
   refine a0 _ _ ?_
   have c3:=x3.cell 0
   have c0:=x0.cell 0
   have c1:=x1.cell 0
   have c2:=x2.cell 0
   have f0:=x0.frozen 0
   have f1:=x1.frozen 0
   have f2:=x2.frozen 0
   simp only[List.getElem?_toArray,List.getElem?_cons_zero] at c0 c1 c2 c3
   gi_wp2
   have n1:w.heap.size+1≠w.heap.size:=by omega
   have n2:w.heap.size+1+1≠w.heap.size:=by omega
   have n3:w.heap.size+1+1≠w.heap.size+1:=by omega
   have hlx:=yields_full hp
   refine lex_end rfl rfl rfl rfl (D:=w.heap.size+5) (by omega) ?_ (((x0.set_ 0 (.slice A ts.length c)).far (p:=⟨w.heap.size+1,0,none⟩) (Ne.symm n1) _).far (p:=⟨w.heap.size+1+1,0,none⟩) (Ne.symm n2) _) (((x1.far (p:=⟨w.heap.size,0,none⟩) n1 _).set_ 0 (.int .i64 0)).far (p:=⟨w.heap.size+1+1,0,none⟩) (Ne.symm n3) _) (((x2.far (p:=⟨w.heap.size,0,none⟩) n2 _).far (p:=⟨w.heap.size+1,0,none⟩) n3 _).set_ 0 (.int .i64 0)) ?_
   ·rw[HSZ.out] at hdef
    exact(Below.heap_setCell _ ⟨w.heap.size+1+1,0,none⟩ _ _ (by simp only;omega)).trans ((Below.heap_setCell _ ⟨w.heap.size+1,0,none⟩ _ _ (by simp only;omega)).trans ((Below.heap_setCell _ ⟨w.heap.size,0,none⟩ _ _ (by simp only;omega)).trans hdef))
   ·have xo2:TokOwn ((((W.setCell ⟨w.heap.size,0,none⟩ (.slice A ts.length c)).setCell ⟨w.heap.size+1,0,none⟩ (.int .i64 0)).setCell ⟨w.heap.size+1+1,0,none⟩ (.int .i64 0)).putObj (w.heap.size+5) (.deferred none)) (w.heap.size+5+2) (.slice A ts.length c) ts:=
     row_put (row_set (row_set (row_set xo (by omega) _) (by omega) _) (by omega) _) (by omega) _
    refine⟨ts,A,c,0,0,rfl,HRw.out.trans (rel_put (((r0.setCell (p:=⟨w.heap.size,0,none⟩) (Nat.le_refl _) _).setCell (p:=⟨w.heap.size+1,0,none⟩) (by simp only;omega) _).setCell (p:=⟨w.heap.size+1+1,0,none⟩) (by simp only;omega) _) (by omega) _),xo2.toks rfl,.inr (.inl ⟨by rw[EL.out];omega, ?_,rfl,rfl⟩),xo.within.1,xo.within.2⟩
    rw[lx_outP _ _ (Nat.le_refl _),hlx];rfl
  case stop=>
   rintro W ⟨r0,k,hk,x0,x1,x2⟩ hdef
   gi_wp2
   refine lex_end rfl rfl rfl rfl (by rw[HSZ.out];omega) hdef x0 x1 x2 ?_
   refine⟨[],none,0,61,(k:Int),rfl,HRw.out.trans (rel_put r0 (by rw[HSZ.out];omega) _),ToksAt.nil _ _,.inr (.inr ⟨by rw[EL.out];omega,k, ?_,rfl,rfl,rfl⟩),Nat.le_refl _,by decide⟩
   rw[lx_outP _ _ (Nat.le_refl _)]
   unfold outP
   rw[hk]
end Go.Proofs.YtjhjdiaomnpkmaaGreatDoor

namespace Go.Proofs.YtjhjdiaomnpkmaaGreatDoor
open Go.RowKit Go.Lib
theorem lx_fineP{s:List UInt8}{ts:List Tok}(h:lx 0 s= .ok ts)(hs:s.length≤2000):FineP ts:=by
 have ho:=lx_okP h
 obtain⟨_,hp,us,hu⟩:=lx_okT h
 obtain⟨vs,hv,hus,_,hlen⟩:=lx_out _ s (Nat.le_refl _) 0 ts h
 refine⟨fun t ht=> ?_,by rw[hv];simp;omega,us,_,hu⟩
 have hpt:=hp t ht
 have hpl:i64 t.2.2.2:=⟨by omega,by omega⟩
 refine⟨ho t ht, ?_⟩
 rw[hv] at ht
 rcases List.mem_append.1 ht with h1|h1
 ·have:=tok_short (hus t h1).1
  exact⟨this.2.1,this.2.2.1,hpl,this.1⟩
 ·simp only[List.mem_cons,List.not_mem_nil,or_false] at h1
  subst h1
  exact⟨show i64 5 from⟨by decide,by decide⟩,show i64 0 from⟨by decide,by decide⟩,hpl,Nat.zero_le _⟩
theorem plex_no{s:ByteArray}(hs:s.size≤9223372036854775807)(cd pl:Int)(h:(2000<s.data.toList.length∧cd=60∧pl=2000)∨(s.data.toList.length≤2000∧∃k:Nat,lx 0 s.data.toList= .error k∧cd=61∧pl=k))(w0 w:World)(hr:Rel w0 w):
  Calls Tryz.prog 65 #[.string s] w fun e w'=>∃(A:Option Addr)(c:Nat),e= .returned (.tuple #[.slice A 0 c,.int .i64 cd,.int .i64 pl])∧Rel w0 w':=by
 refine(lex_any s hs w0 w hr).mono ?_
 rintro e w' ⟨ts,A,c,err,place,rfl,h1,h2,ho,_,_⟩
 have hd:Out s.data.toList [] cd pl:=by
  rcases h with ⟨a,rfl,rfl⟩|⟨a,k,b,rfl,rfl⟩
  ·exact .inl ⟨a,rfl,rfl,rfl⟩
  ·exact .inr (.inr ⟨a,k,b,rfl,rfl,rfl⟩)
 obtain⟨rfl,rfl,rfl⟩:=ho.det hd
 exact⟨A,c,rfl,h1⟩
theorem plex_yes{s:ByteArray}(hs:s.size≤9223372036854775807)(ts:List Tok)(h2:s.data.toList.length≤2000)(h:lx 0 s.data.toList= .ok ts)(w0 w:World)(hr:Rel w0 w):
  Calls Tryz.prog 65 #[.string s] w fun e w'=>∃(A:Option Addr)(c:Nat),e= .returned (.tuple #[.slice A ts.length c,.int .i64 0,.int .i64 0])∧Rel w0 w'∧ToksAt w' A ts∧ts.length≤c∧c≤9223372036854775807:=by
 refine(lex_any s hs w0 w hr).mono ?_
 rintro e w' ⟨ts',A,c,err,place,rfl,h1,h3,ho,k1,k2⟩
 obtain⟨rfl,rfl,rfl⟩:=ho.det (.inr (.inl ⟨h2,h,rfl,rfl⟩))
 exact⟨A,c,rfl,h1,h3,k1,k2⟩
def ParseOk:Prop:=∀(s:ByteArray),s.size≤9223372036854775807→∀w0 w,Rel w0 w→Calls Tryz.prog 54 #[.string s] w (StrPost (parseS s.data.toList) w0 w.heap.size)
theorem parse_none(s:ByteArray)(hs:s.size≤9223372036854775807)(cd pl:Int)(hcd:(cd !=0)=true)(h:(2000<s.data.toList.length∧cd=60∧pl=2000)∨(s.data.toList.length≤2000∧∃k:Nat,lx 0 s.data.toList= .error k∧cd=61∧pl=k))(hp:parseS s.data.toList= .error (cd,pl))(w0 w:World)(hr:Rel w0 w):
  Calls Tryz.prog 54 #[.string s] w (StrPost (parseS s.data.toList) w0 w.heap.size):=by
 have hA:=hr.self.alloc (.cells #[.int .i64 0,.int .i64 0,.string ⟨#[]⟩,.slice none 0 0] 54)
 have HZ:=yH (Bk.new w 54 #[.int .i64 0,.int .i64 0,.string ⟨#[]⟩,.slice none 0 0])
 have HL:=yH (plex_no hs cd pl h (w.alloc (.cells #[.int .i64 0,.int .i64 0,.string ⟨#[]⟩,.slice none 0 0] 54)) _ hA.self)
 have HA:=yH (hr.trans hA)
 have HP:=yH hp
 have h0w:=hr.size
 clear hr hA h hp
 go_enter Tryz.func54,Tryz.ntmps54
 go_wp2_with (go_at_call 65;(with_reducible refine HL.out.mono ?_);rintro e w2 ⟨A,c,rfl,r2⟩;have R2:=yH r2;obtain⟨⟨b0,b1,b2,b3⟩,u0,u1,u2,u3⟩:=(HZ.out.rel r2).four;clear r2)
 obtain⟨⟨y0,y1,y2,y3⟩,_⟩:=((HZ.out.rel R2.out).put4 (.int .i64 0) (.int .i64 0) (.string ⟨#[]⟩) (.slice none 0 0)).four
 have gp:=put4_grown w2 w.heap.size (.int .i64 0) (.int .i64 0) (.string ⟨#[]⟩) (.slice none 0 0)
 have RW:=(HA.out.trans R2.out).grown gp (fun k e=>by cases e;exact h0w)
 refine bodyPost_ret (v:= .tuple #[EV (0,0,[],none,0,0),.int .i64 cd,.int .i64 pl]) (by simp[results,Tryz.results54,go_sem,y0,y1,y2,y3];rfl) rfl (StrPost.no HP.out ⟨rfl,RW⟩)
theorem parse_some(s:ByteArray)(hs:s.size≤9223372036854775807)(ts:List Tok)(h2:s.data.toList.length≤2000)(h:lx 0 s.data.toList= .ok ts)(w0 w:World)(hr:Rel w0 w):
  Calls Tryz.prog 54 #[.string s] w (StrPost (parseS s.data.toList) w0 w.heap.size):=by
 have hA:=hr.self.alloc (.cells #[.int .i64 0,.int .i64 0,.string ⟨#[]⟩,.slice none 0 0] 54)
 have HZ:=yH (Bk.new w 54 #[.int .i64 0,.int .i64 0,.string ⟨#[]⟩,.slice none 0 0])
 have HL:=yH (plex_yes hs ts h2 h (w.alloc (.cells #[.int .i64 0,.int .i64 0,.string ⟨#[]⟩,.slice none 0 0] 54)) _ hA.self)
 have HF:=yH (lx_fineP h h2)
 have hp:parseS s.data.toList=stratT ts:=by unfold parseS;rw[if_neg (by omega),h]
 have HA:=yH (hr.trans hA)
 have h0w:=hr.size
 rw[hp]
 clear hr hA h hp
 cases hst:stratT ts with
 |error E=>
  have HSt:=yH hst
  go_enter Tryz.func54,Tryz.ntmps54
  go_wp2_with (first
   |(go_at_call 65;(with_reducible refine HL.out.mono ?_);rintro e w2 ⟨A,c,rfl,r2,t2,k1,k2⟩;have HC:=yH (pstrat_any A c ts HF.out k1 k2 w2 w2 r2.self t2);have R2:=yH r2;clear r2 t2 k1 k2)
   |(go_at_call 66;(with_reducible refine HC.out.mono ?_);rintro e w3 h3;rw[HSt.out] at h3;obtain⟨rfl,r3⟩:=h3;have R3:=yH r3;obtain⟨⟨b0,b1,b2,b3⟩,u0,u1,u2,u3⟩:=(HZ.out.rel (R2.out.trans r3)).four;clear r3))
  obtain⟨⟨y0,y1,y2,y3⟩,_⟩:=((HZ.out.rel (R2.out.trans R3.out)).put4 (.int .i64 0) (.int .i64 0) (.string (B [])) (.slice none 0 0)).four
  have gp:=put4_grown w3 w.heap.size (.int .i64 0) (.int .i64 0) (.string (B [])) (.slice none 0 0)
  have RW:=(HA.out.trans (R2.out.trans R3.out)).grown gp (fun k e=>by cases e;exact h0w)
  refine bodyPost_ret (v:= .tuple #[EV (0,0,[],none,0,0),.int .i64 E.1,.int .i64 E.2]) (by simp[results,Tryz.results54,go_sem,y0,y1,y2,y3]) rfl (StrPost.no rfl ⟨rfl,RW⟩)
 |ok x=>
  have HSt:=yH hst
  go_enter Tryz.func54,Tryz.ntmps54
  go_wp2_with (first
   |(go_at_call 65;(with_reducible refine HL.out.mono ?_);rintro e w2 ⟨A,c,rfl,r2,t2,k1,k2⟩;have HC:=yH (pstrat_any A c ts HF.out k1 k2 w2 w2 r2.self t2);have R2:=yH r2;clear r2 t2 k1 k2)
   |(go_at_call 66;(with_reducible refine HC.out.mono ?_);rintro e w3 h3;rw[HSt.out] at h3;obtain⟨v,rfl,ex,r3⟩:=h3;have HEx:=yH ex;have R3:=yH r3;obtain⟨⟨b0,b1,b2,b3⟩,u0,u1,u2,u3⟩:=(HZ.out.rel (R2.out.trans r3)).four;clear r3 ex))
  obtain⟨⟨y0,y1,y2,y3⟩,_⟩:=((HZ.out.rel (R2.out.trans R3.out)).put4 (.int .i64 v.1) (.int .i64 v.2.1) (.string (B v.2.2.1)) (.slice v.2.2.2.1 v.2.2.2.2.1 v.2.2.2.2.2)).four
  have gp:=put4_grown w3 w.heap.size (.int .i64 v.1) (.int .i64 v.2.1) (.string (B v.2.2.1)) (.slice v.2.2.2.1 v.2.2.2.2.1 v.2.2.2.2.2)
  have RW:=(HA.out.trans (R2.out.trans R3.out)).grown gp (fun k e=>by cases e;exact h0w)
  refine bodyPost_ret (v:= .tuple #[EV v,.int .i64 0,.int .i64 0]) (by simp[results,Tryz.results54,go_sem,y0,y1,y2,y3]) rfl (StrPost.yes rfl ⟨v,rfl,HEx.out.grown gp (fun k hk=>by have:=R2.out.size;rw[World.size_alloc] at this;exact⟨by omega,fun e=>by injection e;omega⟩),RW⟩)
theorem parseOk:ParseOk:=fun s hs w0 w hr=>by
 by_cases hl:2000<s.data.toList.length
 ·exact parse_none s hs 60 2000 rfl (.inl ⟨hl,rfl,rfl⟩) (by unfold parseS;rw[if_pos hl]) w0 w hr
 ·cases hx:lx 0 s.data.toList with
  |error k=>exact parse_none s hs 61 k rfl (.inr ⟨by omega,k,hx,rfl,rfl⟩) (by unfold parseS;rw[if_neg hl,hx]) w0 w hr
  |ok ts=>exact parse_some s hs ts (by omega) hx w0 w hr
theorem len_le:∀l:List Ex,l.length≤sizes l:=fun l=>by
 induction l with
 |nil=>simp
 |cons x t ih=>rw[sizes_cons,List.length_cons];have:=size_pos x;omega
end Go.Proofs.YtjhjdiaomnpkmaaGreatDoor
