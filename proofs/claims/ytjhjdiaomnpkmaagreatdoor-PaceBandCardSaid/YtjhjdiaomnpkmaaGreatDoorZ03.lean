/- Expressions in memory. -/

import Derived.Test.YtjhjdiaomnpkmaaGreatDoorZ02
set_option maxRecDepth 100000
set_option maxHeartbeats 8000000
set_option linter.unusedVariables false
set_option linter.unusedSimpArgs false
namespace Go.Proofs.YtjhjdiaomnpkmaaGreatDoor
open Go.RowKit Go.Lib
abbrev El:=Int×Int×List UInt8×Option Addr×Nat×Nat
abbrev EV(e:El):Value:= .agg #[.int .i64 e.1,.int .i64 e.2.1,.string (B e.2.2.1),.slice e.2.2.2.1 e.2.2.2.2.1 e.2.2.2.2.2]
def cellsE(e:El):List Value:=[.int .i64 e.1,.int .i64 e.2.1,.string (B e.2.2.1),.slice e.2.2.2.1 e.2.2.2.2.1 e.2.2.2.2.2]
def cellsEs(es:List El):List Value:=es.flatMap cellsE
theorem cellsEs_snoc(es:List El)(e:El):cellsEs (es++[e])=cellsEs es++cellsE e:=by simp[cellsEs]
theorem cellsEs_at(es:List El)(i:Nat)(h:i<es.length):
  (cellsEs es)[i*4]?=some (.int .i64 es[i].1)∧(cellsEs es)[i*4+1]?=some (.int .i64 es[i].2.1)∧(cellsEs es)[i*4+2]?=some (.string (B es[i].2.2.1))∧(cellsEs es)[i*4+3]?=some (.slice es[i].2.2.2.1 es[i].2.2.2.2.1 es[i].2.2.2.2.2):=by
 induction es generalizing i with
 |nil=>simp at h
 |cons e t ih=>
  have hc:cellsEs (e::t)=cellsE e++cellsEs t:=rfl
  cases i with
  |zero=>rw[hc];exact⟨rfl,rfl,rfl,rfl⟩
  |succ i=>
   obtain⟨h1,h2,h3,h4⟩:=ih i (by simpa using h)
   have l4:(cellsE e).length=4:=rfl
   refine⟨?_, ?_, ?_, ?_⟩
   ·rw[hc,List.getElem?_append_right (by omega),show(i+1)*4-(cellsE e).length=i*4 by omega];exact h1
   ·rw[hc,List.getElem?_append_right (by omega),show(i+1)*4+1-(cellsE e).length=i*4+1 by omega];exact h2
   ·rw[hc,List.getElem?_append_right (by omega),show(i+1)*4+2-(cellsE e).length=i*4+2 by omega];exact h3
   ·rw[hc,List.getElem?_append_right (by omega),show(i+1)*4+3-(cellsE e).length=i*4+3 by omega];exact h4
def RowE(S:Nat→Prop)(w:World)(A:Option Addr)(es:List El):Prop:=
 ∀i (h:i<es.length),∃(g off:Nat),A=some ⟨g,off,none⟩∧g<w.heap.size∧S g∧w.cell? ⟨g,off+i*4,none⟩=some (.int .i64 es[i].1)∧w.cell? ⟨g,off+i*4+1,none⟩=some (.int .i64 es[i].2.1)∧
  w.cell? ⟨g,off+i*4+2,none⟩=some (.string (B es[i].2.2.1))∧w.cell? ⟨g,off+i*4+3,none⟩=some (.slice es[i].2.2.2.1 es[i].2.2.2.2.1 es[i].2.2.2.2.2)
theorem RowE.mono{S S':Nat→Prop}{w w':World}{A:Option Addr}{es:List El}(h:RowE S w A es)(hs:w.heap.size≤w'.heap.size)(hm:∀g,S g→g<w.heap.size→S' g∧w'.heap[g]?=w.heap[g]?):RowE S' w' A es:=by
 intro i hi
 obtain⟨g,off,e,hl,hS,h0,h1,h2,h3⟩:=h i hi
 obtain⟨hS',hb⟩:=hm g hS hl
 have hk:∀j,w'.cell? ⟨g,j,none⟩=w.cell? ⟨g,j,none⟩:=fun j=>World.cell?_of_block (a:=⟨g,j,none⟩) hb
 exact⟨g,off,e,by omega,hS',by rw[hk];exact h0,by rw[hk];exact h1,by rw[hk];exact h2,by rw[hk];exact h3⟩
def i64(n:Int):Prop:= -9223372036854775808≤n∧n≤9223372036854775807
inductive ExAt (S:Nat→Prop) (w:World):El→Ex→Prop where
 |mk (k n:Int) (nm:List UInt8) (A:Option Addr) (c:Nat) (l:List Ex) (es:List El) (hk:i64 k) (hn:i64 n) (hm:nm.length≤100) (hl:es.length=l.length) (hrow:RowE S w A es)
   (hsub:∀i (h:i<es.length) (h':i<l.length),ExAt S w es[i] l[i]):ExAt S w (k,n,nm,A,l.length,c) (.mk k n nm l)
theorem ExAt.mono{S S':Nat→Prop}{w w':World}(hs:w.heap.size≤w'.heap.size)(hm:∀g,S g→g<w.heap.size→S' g∧w'.heap[g]?=w.heap[g]?){e:El}{x:Ex}(h:ExAt S w e x):ExAt S' w' e x:=by
 induction h with
 |mk k n nm A c l es hk hn hm' hl hrow hsub ih=>exact .mk k n nm A c l es hk hn hm' hl (hrow.mono hs hm) ih
theorem ExAt.rel{S:Nat→Prop}{w w':World}{e:El}{x:Ex}(h:ExAt S w e x)(hr:Rel w w'):ExAt S w' e x:=h.mono hr.size fun g hS hl=>⟨hS,hr.2.block g hl⟩
theorem ExAt.weak{S S':Nat→Prop}{w:World}{e:El}{x:Ex}(h:ExAt S w e x)(hm:∀g,S g→S' g):ExAt S' w e x:=h.mono (Nat.le_refl _) fun g hS _=>⟨hm g hS,rfl⟩
theorem ExAt.open{S:Nat→Prop}{w:World}{k n:Int}{nm:List UInt8}{l:List Ex}{e:El}(h:ExAt S w e (.mk k n nm l)):∃A c es,e=(k,n,nm,A,l.length,c)∧i64 k∧i64 n∧nm.length≤100∧es.length=l.length∧RowE S w A es∧∀i (h:i<es.length) (h':i<l.length),ExAt S w es[i] l[i]:=by
 cases h with
 |mk k n nm A c l es hk hn hm hl hrow hsub=>exact⟨A,c,es,rfl,hk,hn,hm,hl,hrow,hsub⟩
theorem RowE.nil(S:Nat→Prop)(w:World)(A:Option Addr):RowE S w A []:=fun i h=>absurd h (by simp)
theorem ExAt.leaf(S:Nat→Prop)(w:World)(k n:Int)(nm:List UInt8)(A:Option Addr)(c:Nat)(hk:i64 k)(hn:i64 n)(hm:nm.length≤100):ExAt S w (k,n,nm,A,0,c) (.mk k n nm []):=
 .mk k n nm A c [] [] hk hn hm rfl (RowE.nil _ _ _) fun i h=>absurd h (by simp)
theorem ExAt.grown{S S':Nat→Prop}{w w':World}{b:Option Nat}{e:El}{x:Ex}(h:ExAt S w e x)(hg:w.grownBy w' b)(hS:∀k,S k→S' k∧some k≠b):ExAt S' w' e x:=h.mono hg.size fun k hk hl=>⟨(hS k hk).1,hg.block k hl (hS k hk).2⟩
theorem RowE.of_bk{S:Nat→Prop}{w:World}{g:Nat}{es:List El}(h:Bk w g 54 (cellsEs es).toArray)(hS:S g):RowE S w (some ⟨g,0,none⟩) es:=by
 intro i hi
 obtain⟨c0,c1,c2,c3⟩:=cellsEs_at es i hi
 refine⟨g,0,rfl,h.lt,hS, ?_, ?_, ?_, ?_⟩
 ·rw[Nat.zero_add,h.cell,List.getElem?_toArray];exact c0
 ·rw[Nat.zero_add,h.cell,List.getElem?_toArray];exact c1
 ·rw[Nat.zero_add,h.cell,List.getElem?_toArray];exact c2
 ·rw[Nat.zero_add,h.cell,List.getElem?_toArray];exact c3
theorem ExAt.two{S:Nat→Prop}{w:World}{k n:Int}{nm:List UInt8}{g c:Nat}{a b:El}{x y:Ex}(hk:i64 k)(hn:i64 n)(hm:nm.length≤100)(h:Bk w g 54 (cellsEs [a,b]).toArray)(hS:S g)(hx:ExAt S w a x)(hy:ExAt S w b y):
  ExAt S w (k,n,nm,some ⟨g,0,none⟩,2,c) (.mk k n nm [x,y]):=
 .mk k n nm _ c [x,y] [a,b] hk hn hm rfl (RowE.of_bk h hS) fun i h h'=>by
  match i,h,h' with
  |0,_,_=>exact hx
  |1,_,_=>exact hy
def ElsOwn(w:World)(base:Nat)(v:Value)(es:List El):Prop:=w.ownsRow base 54 4 v es.length (cellsEs es)
theorem ElsOwn.toks{S:Nat→Prop}{w:World}{base:Nat}{A:Option Addr}{n c:Nat}{es:List El}(h:ElsOwn w base (.slice A n c) es)(hn:n=es.length)(hS:∀j,(Value.slice A n c).ownBlock=some j→S j):RowE S w A es:=by
 intro i hi
 have h:w.ownsRow base 54 4 (.slice A n c) es.length (cellsEs es):=h
 rcases h.2 with ⟨h0,h1⟩|⟨g,cap,cur,hv,hb,hh,_⟩
 ·omega
 ·have hA:A=some ⟨g,0,none⟩:=by injection hv
  obtain⟨c0,c1,c2,c3⟩:=cellsEs_at es i hi
  have hc:=h.cells (g:=g) (by rw[hA];rfl)
  have q0:=hc _ _ c0
  have q1:=hc _ _ c1
  have q2:=hc _ _ c2
  have q3:=hc _ _ c3
  rw[addr_at] at q0 q1 q2 q3
  refine⟨g,0,hA,Bk.lt (t:=54) hh,hS g (by rw[hA];rfl), ?_, ?_, ?_, ?_⟩
  ·exact q0
  ·rw[Nat.add_assoc];exact q1
  ·rw[Nat.add_assoc];exact q2
  ·rw[Nat.add_assoc];exact q3
theorem ex_info:(Tryz.prog.info? 54).map (fun i=>(i.zero,i.size,i.bytes))=some (some (.agg #[.int .i64 0,.int .i64 0,.string ⟨#[]⟩,.slice none 0 0]),4,56):=by kernel_rfl
theorem cellsE_one(e:El):∀u∈cellsE e,u.oneCell'=true:=by
 intro u hu
 simp only[cellsE,List.mem_cons,List.not_mem_nil,or_false] at hu
 rcases hu with rfl|rfl|rfl|rfl<;>rfl
def SrcAt(w:World)(g:Nat)(L:List Int):Prop:=
 ∃(A:Option Addr)(c:Nat),Bk w g 67 #[.slice A L.length c]∧L.length≤c∧c≤maxLen∧(∀z∈L,i64 z)∧∀i (h:i<L.length),∃a:Addr,A=some a∧a.block<g∧w.cell? (a.add i)=some (.int .i64 L[i])
theorem SrcAt.grown{w w':World}{g:Nat}{L:List Int}(h:SrcAt w g L){b:Option Nat}(hg:w.grownBy w' b)(hb:∀k,b=some k→g<k):SrcAt w' g L:=by
 obtain⟨A,c,hbk,h1,h2,h3,h4⟩:=h
 have hgl:=hbk.lt
 refine⟨A,c,hbk.grown hg (fun e=>by have:=hb g e.symm;omega),h1,h2,h3,fun i hi=> ?_⟩
 obtain⟨a,e,hl,hc⟩:=h4 i hi
 refine⟨a,e,hl, ?_⟩
 have hk:w'.heap[(a.add i).block]?=w.heap[(a.add i).block]?:=by rw[block_add];exact hg.block _ (by omega) (fun e=>by have:=hb _ e.symm;omega)
 exact(World.cell?_of_block hk).trans hc
theorem grown_rel{w w':World}(r:Option Nat)(h:Rel w w'):w.grownBy w' r:=⟨h.2.os,h.2.tape,h.2.output,h.2.size,fun k hk _=>h.2.block k hk⟩
theorem SrcAt.rel{w w':World}{g:Nat}{L:List Int}(h:SrcAt w g L)(hr:Rel w w'):SrcAt w' g L:=h.grown (grown_rel none hr) (fun k e=>by cases e)
theorem grown_trans{w w' w'':World}{r:Option Nat}(h:w.grownBy w' r)(h':w'.grownBy w'' r):w.grownBy w'' r:=
 ⟨h'.os.trans h.os,h'.tape.trans h.tape,h'.output.trans h.output,Nat.le_trans h.size h'.size,fun k hk hn=>(h'.block k (Nat.lt_of_lt_of_le hk h.size) hn).trans (h.block k hk hn)⟩
theorem grown_of{w w' w'':World}{r:Option Nat}(h:w.grownBy w' r){b:Option Nat}(h':w'.grownBy w'' b)(hb:∀k,b=some k→w.heap.size≤k):w.grownBy w'' r:=
 ⟨h'.os.trans h.os,h'.tape.trans h.tape,h'.output.trans h.output,Nat.le_trans h.size h'.size,fun k hk hn=>(h'.block k (Nat.lt_of_lt_of_le hk h.size) (fun e=>by have:=hb k e.symm;omega)).trans (h.block k hk hn)⟩
theorem set_grown(w:World)(b i:Nat)(v:Value):w.grownBy (w.setCell ⟨b,i,none⟩ v) (some b):=
 ⟨rfl,rfl,rfl,by rw[World.size_setCell];exact Nat.le_refl _,fun k _ hk=>Below.heap_setCell w ⟨b,i,none⟩ v k (fun e=>hk (by rw[e]))⟩
theorem put4_grown(w:World)(b:Nat)(x y z u:Value):w.grownBy ((((w.setCell ⟨b,0,none⟩ x).setCell ⟨b,1,none⟩ y).setCell ⟨b,2,none⟩ z).setCell ⟨b,3,none⟩ u) (some b):=
 grown_trans (grown_trans (grown_trans (set_grown w b 0 x) (set_grown _ b 1 y)) (set_grown _ b 2 z)) (set_grown _ b 3 u)
theorem SrcAt.lt{w:World}{g:Nat}{L:List Int}(h:SrcAt w g L):g<w.heap.size:=by
 obtain⟨_,_,hb,_⟩:=h;exact hb.lt
theorem pk_as(c n y:Int)(h:Hid (pk c n=y))(hc: -9223372036854775808≤c)(hc':c≤9223372036854775807)(hn:0<n)(hn':n≤9223372036854775807)(w:World):
  Calls Tryz.prog 59 #[.int .i64 c,.int .i64 n] w fun e w'=>e= .returned (.int .i64 y)∧w=w':=by
 rw[←h.out]
 by_cases h:c<0
 all_goals
  go_enter Tryz.func59,Tryz.ntmps59
  go_wp2
  all_goals
   go_ret
   exact⟨ret_int (by unfold pk;split<;>first|rfl|omega),rfl⟩
theorem addr_zero(a:Addr):a.add 0=a:=by
 obtain⟨b,o,p⟩:=a
 cases p<;>simp[Addr.add]
theorem add_next(a:Addr)(n:Nat):a.add (n+1)=⟨(a.add n).block,(a.add n).off+1,none⟩:=by
 unfold Addr.add
 by_cases h:n=0
 ·subst h;simp
 ·simp[h];omega
theorem src_next{w:World}{g:Nat}{z:Int}{t:List Int}{a:Addr}{c:Nat}(hb:Bk w g 67 #[.slice (some a) (z::t).length c])(h3:∀z'∈z::t,i64 z')
  (h4:∀i (h:i<(z::t).length),∃a':Addr,some a=some a'∧a'.block<g∧w.cell? (a'.add i)=some (.int .i64 (z::t)[i])) (a':Addr) (c':Nat) (hA:t=[]∨a'=a.add 1) (hc:t.length≤c') (hc':c'≤maxLen):
  SrcAt (w.setCell ⟨g,0,none⟩ (.slice (some a') t.length c')) g t∧w.grownBy (w.setCell ⟨g,0,none⟩ (.slice (some a') t.length c')) (some g)∧(w.setCell ⟨g,0,none⟩ (.slice (some a') t.length c')).heap.size=w.heap.size:=by
 refine⟨⟨some a',c',hb.set_ 0 _,hc,hc',fun z' hz=>h3 z' (List.mem_cons_of_mem _ hz),fun i hi=> ?_⟩,⟨rfl,rfl,rfl,by rw[World.size_setCell];exact Nat.le_refl _,fun k _ hk=>Below.heap_setCell w ⟨g,0,none⟩ _ k (fun e=>hk (by rw[e]))⟩,World.size_setCell ..⟩
 have hi':i+1<(z::t).length:=by simpa using hi
 obtain⟨b,e,hl,hcell⟩:=h4 (i+1) hi'
 cases e
 rcases hA with rfl|rfl
 ·simp at hi
 ·refine⟨_,rfl,by rw[block_add];exact hl, ?_⟩
  rw[Addr.add_add,Nat.add_comm 1 i]
  have hk:(w.setCell ⟨g,0,none⟩ (.slice (some (a.add 1)) t.length c')).heap[(a.add (i+1)).block]?=w.heap[(a.add (i+1)).block]?:=Below.heap_setCell w ⟨g,0,none⟩ _ _ (by rw[block_add];simp only;omega)
  rw[World.cell?_of_block hk]
  exact hcell
theorem next_any(g:Nat)(L:List Int)(n:Int)(hn:0<n)(hn':n≤9223372036854775807)(w:World)(h:SrcAt w g L):
  Calls Tryz.prog 49 #[.pointer (some ⟨g,0,none⟩),.int .i64 n] w fun e w'=>e= .returned (.int .i64 (nx n L).1)∧SrcAt w' g (nx n L).2∧w.grownBy w' (some g)∧w'.heap.size=w.heap.size:=by
 obtain⟨A,c,hb,h1,h2,h3,h4⟩:=h
 have c0:=hb.cell 0
 have f0:=hb.frozen 0
 have HB:=yH hb
 have H4:=yH h4
 have HG:Hid (w.grownBy w (some g)):=yH ⟨rfl,rfl,rfl,Nat.le_refl _,fun _ _ _=>rfl⟩
 simp only[List.getElem?_toArray,List.getElem?_cons_zero] at c0
 clear hb h4
 cases L with
 |nil=>
  have H3:=yH h3
  clear h3
  go_enter Tryz.func49,Tryz.ntmps49
  go_wp2_with (fail)
  go_ret
  exact⟨rfl,⟨A,c,HB.out,h1,h2,H3.out,H4.out⟩,HG.out,rfl⟩
 |cons z t=>
  obtain⟨a,rfl,hl,hc⟩:=H4.out 0 (by simp)
  have hne:a.block≠g:=by omega
  obtain⟨y,hy⟩:∃y,pk z n=y:=⟨_,rfl⟩
  have HY:=yH hy
  have hz:=h3 z (List.mem_cons_self ..)
  have H3:=yH h3
  rw[addr_zero] at hc
  have HA1:=yH (show(⟨a.block,a.off+1,none⟩:Addr)=a.add 1 by rw[add_next a 0,addr_zero])
  have z0:=hz.1
  have z1:=hz.2
  simp only[List.length_cons,List.getElem_cons_zero] at h1 hc c0
  clear hy hz h3
  go_enter Tryz.func49,Tryz.ntmps49
  go_wp2_with (go_at_call 59;(with_reducible refine(pk_as z n y HY z0 z1 hn hn' _).mono ?_);rintro e w' ⟨rfl,rfl⟩)
  all_goals
   go_ret
   refine⟨ret_int HY.out.symm, ?_⟩
   first
    |exact src_next HB.out H3.out H4.out _ _ (.inr HA1.out) (by omega) (by omega)
    |exact src_next HB.out H3.out H4.out _ _ (.inl (List.length_eq_zero_iff.1 (by omega))) (by omega) (by omega)
theorem pick_as(c n y:Int)(h:Hid (pk c n=y))(hc: -9223372036854775808≤c)(hc':c≤9223372036854775807)(hn:0<n)(hn':n≤9223372036854775807)(w:World):
  Calls Tryz.prog 60 #[.int .i64 c,.int .i64 n] w fun e w'=>e= .returned (.int .i64 y)∧w=w':=by
 rw[←h.out];exact pick_any c n hc hc' hn hn' w
theorem decimal_as(n:Int)(S:ByteArray)(h:Hid (B (decDigits n.toNat)=S))(h0:0≤n)(h1:n≤9223372036854775807)(w0 w:World)(hr:Rel w0 w):
  Calls Tryz.prog 61 #[.int .i64 n] w fun e w'=>e= .returned (.string S)∧Rel w0 w':=by
 rw[←h.out];exact decimal_any n h0 h1 w0 w hr
def strCells(ls:List (List UInt8)):Array Value:=(ls.map fun l=>Value.string (B l)).toArray
theorem str_cell{w:World}{g:Nat}{ls:List (List UInt8)}(h:Bk w g 9 (strCells ls))(j:Nat)(hj:j<ls.length):w.cell? ⟨g,j,none⟩=some (.string (B (ls.getD j []))):=by
 rw[h.cell]
 unfold strCells
 rw[List.getElem?_toArray,List.getElem?_map,List.getElem?_eq_getElem hj,List.getD_eq_getElem?_getD,List.getElem?_eq_getElem hj]
 rfl
theorem nam_cell(w:World)(j:Nat)(hj:j<6):(w.alloc (.cells #[.string ⟨#[97]⟩,.string ⟨#[98,111,98]⟩,.string ⟨#[108,111,119,101,115]⟩,.string ⟨#[97,99,109,101,57]⟩,.string ⟨#[120,49]⟩,.string ⟨#[101,108,115,101,101]⟩] 9)).cell? ⟨w.heap.size,j,none⟩=some (.string (B (theNames.getD j []))):=
 str_cell (ls:=theNames) (Bk.new w 9 (strCells theNames)) j hj
theorem nam_after{w w':World}(hr:Rel (w.alloc (.cells #[.string ⟨#[97]⟩,.string ⟨#[98,111,98]⟩,.string ⟨#[108,111,119,101,115]⟩,.string ⟨#[97,99,109,101,57]⟩,.string ⟨#[120,49]⟩,.string ⟨#[101,108,115,101,101]⟩] 9)).drew w')(j:Nat)(hj:j<6)(X:ByteArray)(hX:B (theNames.getD j [])=X):w'.cell? ⟨w.heap.size,j,none⟩=some (.string X):=by
 rw[←hX]
 exact str_cell (ls:=theNames) (Bk.rel (w:=(w.alloc (.cells (strCells theNames) 9)).drew) (Bk.new w 9 (strCells theNames)) hr) j hj
theorem seller_any(n:Int)(h0: -9223372036854775808≤n)(h1:n≤9223372036854775807)(w0 w:World)(hr:Rel w0 w):
  Calls Tryz.prog 51 #[.int .i64 n] w fun e w'=>e= .returned (.string (B (sellerL (pk n 60))))∧Rel w0 w':=by
 have hb:=pk_bd n 60 (by omega)
 obtain⟨u,hu⟩:∃u,pk n 60=u:=⟨_,rfl⟩
 rw[hu] at hb⊢
 have HU:=yH hu
 obtain⟨u0,u1⟩:=hb
 have t6:=tdt u 6 (by omega)
 obtain⟨a,ha⟩:∃a:Nat,u.tmod 6=(a:Int):=⟨(u.tmod 6).toNat,by omega⟩
 obtain⟨b,hq'⟩:∃b:Nat,u.tdiv 6=(b:Int):=⟨(u.tdiv 6).toNat,by omega⟩
 have hq:IntKind.i64.wrap (u.tdiv 6)=(b:Int):=by rw[hq'];exact IntWalk.i64_in _ (by omega)
 have a6:a<6:=by omega
 have a6':(a:Int)<6:=by omega
 have b9:(b:Int)≤10:=by omega
 obtain⟨X,hX⟩:∃X,B (theNames.getD a [])=X:=⟨_,rfl⟩
 have hc:=fun w=>nam_cell w a a6
 obtain⟨D,hD⟩:∃D,B (decDigits ((b:Int)).toNat)=D:=⟨_,rfl⟩
 have HD:=yH hD
 have z1:X.size≤5:=by rw[←hX,B_size];exact names_len ⟨a,a6⟩
 have z2:D.size≤19:=by rw[←hD];exact dd_size _ (by omega)
 have z3: ¬9223372036854775807<X.size+D.size:=by omega
 have HF:=yH (show X++D=B (sellerL u) by
  unfold sellerL
  rw[←hX,←hD,B_append,show u%6=(a:Int) by omega,show u/6=(b:Int) by omega];rfl)
 have HX:=yH hX
 rw[hX] at hc
 have HR:=yH hr
 clear hu hX hD t6 hq'
 go_enter Tryz.func51,Tryz.ntmps51
 go_wp2_with (go_at_call 60;(with_reducible refine(pick_as n 60 u HU h0 h1 (by omega) (by omega) _).mono ?_);rintro e w' ⟨rfl,rfl⟩)
 have HS:=yH hr.self
 go_region_law (rw[if_pos (by rfl)];go_simp;go_at_call 61;(with_reducible refine(decimal_as (b:Int) D HD (by omega) (by omega) _ _ (by first|exact HS.out.drew.self|exact(HS.out.drew.alloc _).self|exact((HS.out.alloc _).drew).self)).mono ?_);rintro e w' ⟨rfl,hr'⟩;try(have cx:=nam_after hr' a a6 X HX.out))
 all_goals
  go_wp2_with (fail)
  go_ret
  refine⟨ret_str HF.out, ?_⟩
  first
   |exact(HR.out.alloc _).drew.trans hr'
   |exact(HR.out.drew.trans hr').alloc _
theorem kinds(k:Int):(k=1∨k=2∨k=3∨k=4∨k=5∨k=6∨k=7∨k=8∨k=9∨k=10∨k=11∨k=12)∨
  ((k==1)=false∧(k==2)=false∧(k==3)=false∧(k==4)=false∧(k==5)=false∧(k==6)=false∧(k==7)=false∧(k==8)=false∧(k==9)=false∧(k==10)=false∧(k==11)=false∧(k==12)=false∧argsN k= -1∧mostN k=0∧isCond k=false):=by
 by_cases h:k=1∨k=2∨k=3∨k=4∨k=5∨k=6∨k=7∨k=8∨k=9∨k=10∨k=11∨k=12
 ·exact .inl h
 ·refine .inr ⟨?_, ?_, ?_, ?_, ?_, ?_, ?_, ?_, ?_, ?_, ?_, ?_, ?_, ?_, ?_⟩
  iterate 12 (·simp;omega)
  ·unfold argsN;rw[if_neg (by omega),if_neg (by omega),if_neg (by omega),if_neg (by omega)]
  ·unfold mostN;rw[if_neg (by omega),if_neg (by omega),if_neg (by omega)]
  ·unfold isCond;simp;omega
theorem rargs_any(k:Int)(w:World):Calls Tryz.prog 50 #[.int .i64 k] w fun e w'=>e= .returned (.int .i64 (argsN k))∧w=w':=by
 rcases kinds k with h|⟨k1,k2,k3,k4,k5,k6,k7,k8,k9,k10,k11,k12,ha,_⟩
 ·rcases h with rfl|rfl|rfl|rfl|rfl|rfl|rfl|rfl|rfl|rfl|rfl|rfl
  all_goals
   go_enter Tryz.func50,Tryz.ntmps50
   go_wp2_with (fail)
   go_ret
   exact⟨rfl,rfl⟩
 ·have HA:=yH ha
  clear ha
  go_enter Tryz.func50,Tryz.ntmps50
  go_wp2_with (fail)
  go_ret
  exact⟨ret_int HA.out.symm,rfl⟩
theorem args_as(k m:Int)(h:Hid (argsN k=m))(w:World):Calls Tryz.prog 50 #[.int .i64 k] w fun e w'=>e= .returned (.int .i64 m)∧w=w':=by rw[←h.out];exact rargs_any k w
theorem next_as(g:Nat)(L:List Int)(n v:Int)(L':List Int)(hv:Hid ((nx n L)=(v,L')))(hn:0<n)(hn':n≤9223372036854775807)(w:World)(h:SrcAt w g L):
  Calls Tryz.prog 49 #[.pointer (some ⟨g,0,none⟩),.int .i64 n] w fun e w'=>e= .returned (.int .i64 v)∧SrcAt w' g L'∧w.grownBy w' (some g)∧w'.heap.size=w.heap.size:=by
 have:=next_any g L n hn hn' w h
 rw[hv.out] at this
 exact this
def ExprAt(d:Nat):Prop:=∀(c:Bool)(L:List Int)(g:Nat)(w0 w:World),Rel w0 w→w0.heap.size≤g→SrcAt w g L→Calls Tryz.prog 37 #[.pointer (some ⟨g,0,none⟩),.int .i64 ((d:Int)+1),.bool c] w fun e w'=>
 ∃v:El,e= .returned (EV v)∧ExAt (fun k=>w.heap.size≤k) w' v (gen (d+1) c L).1∧SrcAt w' g (gen (d+1) c L).2∧w.grownBy w' (some g)
theorem expr_as{d:Nat}(E:ExprAt d)(c:Bool)(L:List Int)(x:Ex)(L':List Int)(hx:Hid (gen (d+1) c L=(x,L')))(g:Nat)(w0 w:World)(hr:Rel w0 w)(hg:w0.heap.size≤g)(hs:SrcAt w g L):
  Calls Tryz.prog 37 #[.pointer (some ⟨g,0,none⟩),.int .i64 ((d:Int)+1),.bool c] w fun e w'=>∃v:El,e= .returned (EV v)∧ExAt (fun k=>w.heap.size≤k) w' v x∧SrcAt w' g L'∧w.grownBy w' (some g):=by
 have:=E c L g w0 w hr hg hs
 rw[hx.out] at this
 exact this
theorem expr_cond(d:Nat)(hd:d≤10)(H:∀d',d=d'+1→ExprAt d')(L:List Int)(g:Nat)(w0 w:World)(hr:Rel w0 w)(hg0:w0.heap.size≤g)(hs:SrcAt w g L):
  Calls Tryz.prog 37 #[.pointer (some ⟨g,0,none⟩),.int .i64 ((d:Int)+1),.bool true] w fun e w'=>
   ∃v:El,e= .returned (EV v)∧ExAt (fun k=>w.heap.size≤k) w' v (gen (d+1) true L).1∧SrcAt w' g (gen (d+1) true L).2∧w.grownBy w' (some g):=by
 have hgl:=hs.lt
 have hA:=hr.self.alloc (.cells #[.int .i64 0,.int .i64 0,.string ⟨#[]⟩,.slice none 0 0] 54)
 have hS:=yH (hs.rel hA)
 have HB:=yH (Bk.new w 54 #[.int .i64 0,.int .i64 0,.string ⟨#[]⟩,.slice none 0 0])
 have HG:=yH (grown_rel (some g) hA)
 have HR:=yH (hr.alloc (.cells #[.int .i64 0,.int .i64 0,.string ⟨#[]⟩,.slice none 0 0] 54))
 clear hA
 cases d with
 |zero=>
  obtain⟨⟨v,L'⟩,hv⟩:∃p,nx 7 L=p:=⟨_,rfl⟩
  have HV:=yH hv
  have hb:=nx_bd 7 (by omega) L
  rw[hv] at hb
  have HF:=yH (show gen 1 true L=(.mk 11 v [] [],L') by simp[gen,hv])
  clear hv hs
  go_enter Tryz.func37,Tryz.ntmps37
  go_wp2_with (go_at_call 49;(with_reducible refine(next_as g L 7 v L' HV (by decide) (by decide) _ hS.out).mono ?_);rintro e w1 ⟨rfl,s1,g1,z1⟩;obtain⟨⟨c0,c1,c2,c3⟩,f0,f1,f2,f3⟩:=(HB.out.grown g1 (fun e=>by injection e;omega)).four)
  obtain⟨⟨r0,r1,r2,r3⟩,_⟩:=((HB.out.grown g1 (fun e=>by injection e;omega)).put4 (.int .i64 11) (.int .i64 v) (.string ⟨#[]⟩) (.slice none 0 0)).four
  refine bodyPost_ret (v:=EV (11,v,[],none,0,0)) (by simp[results,Tryz.results37,go_sem,r0,r1,r2,r3];rfl) rfl ⟨_,rfl, ?_, ?_, ?_⟩
  ·rw[HF.out];exact ExAt.leaf _ _ 11 v [] none 0 ⟨by decide,by decide⟩ ⟨by omega,by omega⟩ (by simp)
  ·rw[HF.out];exact s1.grown (put4_grown w1 w.heap.size _ _ _ _) (fun k e=>by cases e;exact hgl)
  ·exact grown_of (grown_trans HG.out g1) (put4_grown w1 w.heap.size _ _ _ _) (fun k e=>by cases e;exact Nat.le_refl _)
 |succ d=>
  have E:=H d rfl
  obtain⟨⟨v2,L2⟩,hv2⟩:∃p,nx 2 L=p:=⟨_,rfl⟩
  have HV2:=yH hv2
  have hb2:=nx_bd 2 (by omega) L
  rw[hv2] at hb2
  have hdd: ¬((d:Int)+1+1<2):=by omega
  by_cases h0:v2=0
  ·obtain⟨⟨v,L'⟩,hv⟩:∃p,nx 7 L2=p:=⟨_,rfl⟩
   have HV:=yH hv
   have hb:=nx_bd 7 (by omega) L2
   rw[hv] at hb
   have HF:=yH (show gen (d+2) true L=(.mk 11 v [] [],L') by simp[gen,hv2,hv,h0])
   have h0':(v2==0)=true:=by simpa using h0
   clear hv hv2 hs h0
   go_enter Tryz.func37,Tryz.ntmps37
   go_wp2_with (first
    |(go_at_call 49;(with_reducible refine(next_as g L 2 v2 L2 HV2 (by decide) (by decide) _ hS.out).mono ?_);rintro e w1 ⟨rfl,s1,g1,z1⟩)
    |(go_at_call 49;(with_reducible refine(next_as g L2 7 v L' HV (by decide) (by decide) _ s1).mono ?_);rintro e w2 ⟨rfl,s2,g2,z2⟩;obtain⟨⟨c0,c1,c2,c3⟩,f0,f1,f2,f3⟩:=(HB.out.grown (grown_trans g1 g2) (fun e=>by injection e;omega)).four))
   obtain⟨⟨r0,r1,r2,r3⟩,_⟩:=((HB.out.grown (grown_trans g1 g2) (fun e=>by injection e;omega)).put4 (.int .i64 11) (.int .i64 v) (.string ⟨#[]⟩) (.slice none 0 0)).four
   refine bodyPost_ret (v:=EV (11,v,[],none,0,0)) (by simp[results,Tryz.results37,go_sem,r0,r1,r2,r3];rfl) rfl ⟨_,rfl, ?_, ?_, ?_⟩
   ·rw[HF.out];exact ExAt.leaf _ _ 11 v [] none 0 ⟨by decide,by decide⟩ ⟨by omega,by omega⟩ (by simp)
   ·rw[HF.out];exact s2.grown (put4_grown w2 w.heap.size _ _ _ _) (fun k e=>by cases e;exact hgl)
   ·exact grown_of (grown_trans (grown_trans HG.out g1) g2) (put4_grown w2 w.heap.size _ _ _ _) (fun k e=>by cases e;exact Nat.le_refl _)
  ·obtain⟨⟨x,L3⟩,hx⟩:∃p,gen (d+1) false L2=p:=⟨_,rfl⟩
   obtain⟨⟨y,L4⟩,hy⟩:∃p,gen (d+1) false L3=p:=⟨_,rfl⟩
   have HF:=yH (show gen (d+2) true L=(.mk 12 0 [] [x,y],L4) by rw[gen,if_neg (by omega),hv2,if_neg h0,hx,hy])
   have h0':(v2==0)=false:=by simpa using h0
   have HX:=yH hx
   have HY:=yH hy
   have hw1:IntKind.i64.wrap ((d:Int)+1+1-1)=(d:Int)+1:=by rw[IntKind.wrap_i64];omega
   clear hv2 hs h0 hx hy
   go_enter Tryz.func37,Tryz.ntmps37
   go_wp2_with (first
    |(go_at_call 49;(with_reducible refine(next_as g L 2 v2 L2 HV2 (by decide) (by decide) _ hS.out).mono ?_);rintro e w1 ⟨rfl,s1,g1,z1⟩)
    |(go_at_call 37;(with_reducible refine(expr_as E false L2 x L3 HX g _ _ (HR.out.grown g1 (fun k e=>by cases e;exact hg0)) hg0 s1).mono ?_);rintro e w2 ⟨vx,rfl,ex,s2,g2⟩)
    |(go_at_call 37;(with_reducible refine(expr_as E false L3 y L4 HY g _ _ ((HR.out.grown g1 (fun k e=>by cases e;exact hg0)).grown g2 (fun k e=>by cases e;exact hg0)) hg0 s2).mono ?_);rintro e w3 ⟨vy,rfl,ey,s3,g3⟩;obtain⟨⟨c0,c1,c2,c3⟩,f0,f1,f2,f3⟩:=((HB.out.grown (grown_trans (grown_trans g1 g2) g3) (fun e=>by injection e;omega)).alloc (.cells #[.int .i64 vx.1,.int .i64 vx.2.1,.string (B vx.2.2.1),.slice vx.2.2.2.1 vx.2.2.2.2.1 vx.2.2.2.2.2,.int .i64 vy.1,.int .i64 vy.2.1,.string (B vy.2.2.1),.slice vy.2.2.2.1 vy.2.2.2.2.1 vy.2.2.2.2.2] 54)).four))
   have R2:=(HR.out.grown g1 (fun k e=>by cases e;exact hg0)).grown g2 (fun k e=>by cases e;exact hg0)
   have R3:=R2.grown g3 (fun k e=>by cases e;exact hg0)
   have ga:=grown_rel none (R3.self.alloc (.cells #[.int .i64 vx.1,.int .i64 vx.2.1,.string (B vx.2.2.1),.slice vx.2.2.2.1 vx.2.2.2.2.1 vx.2.2.2.2.2,.int .i64 vy.1,.int .i64 vy.2.1,.string (B vy.2.2.1),.slice vy.2.2.2.1 vy.2.2.2.2.1 vy.2.2.2.2.2] 54))
   have z0:(w.alloc (.cells #[.int .i64 0,.int .i64 0,.string ⟨#[]⟩,.slice none 0 0] 54)).heap.size=w.heap.size+1:=World.size_alloc ..
   have zz1:=g1.size
   have zz2:=g2.size
   have zz3:=g3.size
   obtain⟨gp,hgp⟩:∃gp,gp=put4_grown (w3.alloc (.cells #[.int .i64 vx.1,.int .i64 vx.2.1,.string (B vx.2.2.1),.slice vx.2.2.2.1 vx.2.2.2.2.1 vx.2.2.2.2.2,.int .i64 vy.1,.int .i64 vy.2.1,.string (B vy.2.2.1),.slice vy.2.2.2.1 vy.2.2.2.2.1 vy.2.2.2.2.2] 54)) w.heap.size (.int .i64 12) (.int .i64 0) (.string ⟨#[]⟩) (.slice (some ⟨w3.heap.size,0,none⟩) 2 2):=⟨_,rfl⟩
   clear hgp
   obtain⟨⟨r0,r1,r2,r3⟩,_⟩:=(((HB.out.grown (grown_trans (grown_trans g1 g2) g3) (fun e=>by injection e;omega)).alloc (.cells #[.int .i64 vx.1,.int .i64 vx.2.1,.string (B vx.2.2.1),.slice vx.2.2.2.1 vx.2.2.2.2.1 vx.2.2.2.2.2,.int .i64 vy.1,.int .i64 vy.2.1,.string (B vy.2.2.1),.slice vy.2.2.2.1 vy.2.2.2.2.1 vy.2.2.2.2.2] 54)).put4 (.int .i64 12) (.int .i64 0) (.string ⟨#[]⟩) (.slice (some ⟨w3.heap.size,0,none⟩) 2 2)).four
   refine bodyPost_ret (v:=EV (12,0,[],some ⟨w3.heap.size,0,none⟩,2,2)) (by simp[results,Tryz.results37,go_sem,r0,r1,r2,r3];rfl) rfl ⟨_,rfl, ?_, ?_, ?_⟩
   ·rw[HF.out]
    refine ExAt.two ⟨by decide,by decide⟩ ⟨by decide,by decide⟩ (Nat.zero_le _) ((Bk.new w3 54 (cellsEs [vx,vy]).toArray).grown gp (fun e=>by injection e;omega)) (show w.heap.size≤w3.heap.size by omega) ?_ ?_
    ·exact(((ex.grown (S':=fun k=>w1.heap.size≤k) g3 (fun k hk=>⟨hk,fun e=>by injection e;omega⟩)).grown (S':=fun k=>w1.heap.size≤k) ga (fun k hk=>⟨hk,fun e=>by cases e⟩)).grown gp (fun k hk=>⟨by omega,fun e=>by injection e;omega⟩))
    ·exact((ey.grown (S':=fun k=>w2.heap.size≤k) ga (fun k hk=>⟨hk,fun e=>by cases e⟩)).grown gp (fun k hk=>⟨by omega,fun e=>by injection e;omega⟩))
   ·rw[HF.out];exact(s3.grown ga (fun k e=>by cases e)).grown gp (fun k e=>by cases e;exact hgl)
   ·exact grown_of (grown_of (grown_trans (grown_trans (grown_trans HG.out g1) g2) g3) ga (fun k e=>by cases e)) gp (fun k e=>by cases e;exact Nat.le_refl _)
end Go.Proofs.YtjhjdiaomnpkmaaGreatDoor

namespace Go.Proofs.YtjhjdiaomnpkmaaGreatDoor
open Go
section
variable {P:Program} {ops:Array Oper} {Q:Exit→Act→World→Prop} {md:Region.Mode} {S:World→Prop}
theorem held_take{i:Nat}{oi:Oper}{v:Value}(d:Option Tmp){fuel:Nat}{listed:Array Bool}{a:Act}{w:World}(hi:ops[i]?=some oi)(hd:oi.dst=d)
  (hs:Region.noSelect ops=true) (hf:Region.free md ops listed i=true) (hr:(Region.ready md ops listed).contains i=true)
  (hQ:∀c a w,Q (.panic c) (a.put d v) w→Q (.panic c) a w) (hy:YieldsIf P ops S oi v a) (hS:S w)
  (h:wpAnyH P md ops Q S fuel (listed.setIfInBounds i true) (a.put d v) w):wpAnyH P md ops Q S (fuel+1) listed a w:=by
 subst hd
 exact wpAnyH_take hi hs hf hr hQ hy hS h
theorem held_one{j:Nat}{o:Oper}{fuel:Nat}{listed:Array Bool}{a:Act}{w:World}(hr:Region.ready md ops listed=[j])(ho:ops[j]?=some o)
  (h:∀K':Act→World→Prop,Shut (∀a w,S w→(S w→wpAnyH P md ops Q S fuel (listed.setIfInBounds j true) a w)→K' a w)→if Region.wanted o (yielded ops a.tmps)=true then Oper.wp P o a w K' Q else K' (a.put o.dst undef) w):wpAnyH P md ops Q S (fuel+1) listed a w:=
 wpAnyH_ready hr (by simp) (AllReadyH.cons ho h AllReadyH.nil)
theorem held_two{j k:Nat}{o o':Oper}{fuel:Nat}{listed:Array Bool}{a:Act}{w:World}(hr:Region.ready md ops listed=[j,k])(ho:ops[j]?=some o)(ho':ops[k]?=some o')
  (h:∀K':Act→World→Prop,Shut (∀a w,S w→(S w→wpAnyH P md ops Q S fuel (listed.setIfInBounds j true) a w)→K' a w)→if Region.wanted o (yielded ops a.tmps)=true then Oper.wp P o a w K' Q else K' (a.put o.dst undef) w)
  (h':∀K':Act→World→Prop,Shut (∀a w,S w→(S w→wpAnyH P md ops Q S fuel (listed.setIfInBounds k true) a w)→K' a w)→if Region.wanted o' (yielded ops a.tmps)=true then Oper.wp P o' a w K' Q else K' (a.put o'.dst undef) w):wpAnyH P md ops Q S (fuel+1) listed a w:=
 wpAnyH_ready hr (by simp) (AllReadyH.cons ho h (AllReadyH.cons ho' h' AllReadyH.nil))
end
end Go.Proofs.YtjhjdiaomnpkmaaGreatDoor

namespace Go.Proofs.YtjhjdiaomnpkmaaGreatDoor
open Go.RowKit Go.Lib
def num(n:Int):ByteArray:=B (itoa n)
theorem rdig_any(w0:World):∀(k:Nat)(n:Int),0≤n→n.toNat≤k→n≤9223372036854775807→∀w,Rel w0 w→
  Calls Tryz.prog 58 #[.int .i64 n] w fun e w'=>e= .returned (.string (B (decDigits n.toNat)))∧Rel w0 w':=by
 intro k
 induction k with
 |zero=>
  intro n h0 hk h1 w hr
  obtain rfl:n=0:=by omega
  have hconv:∀w:World,(convert 93 9 (.slice (some ⟨w.heap.size,0,none⟩) 1 1)).run Tryz.prog (w.alloc (.cells #[.int .u8 48] 5))= .ok (.string (B [dgt 0])) (w.alloc (.cells #[.int .u8 48] 5)):=fun w=>byte_string w 0 (by omega) (by omega)
  go_enter Tryz.func58,Tryz.ntmps58
  go_wp2_with (fail)
  go_ret
  exact⟨ret_str (by rw[dd_last (by omega) (by omega)];rfl),hr.alloc _⟩
 |succ k ih=>
  intro n h0 hk h1 w hr
  have b1:0≤n%10:=by omega
  have b2:n%10≤9:=by omega
  have hconv:=fun w:World=>byte_string w (n%10) b1 b2
  by_cases h:10≤n
  ·have HS:=yH (dd_step h0 h)
   have z1:=dd_size (n/10) (by omega)
   have z2:(B [dgt (n%10)]).size≤1:=Nat.le_refl _
   have z3: ¬9223372036854775807<(B (decDigits (n/10).toNat)).size+(B [dgt (n%10)]).size:=by omega
   go_enter Tryz.func58,Tryz.ntmps58
   go_wp2_with ((go_at_call 58;(with_reducible refine(ih (n/10) (by omega) (by omega) (by omega) _ (hr.alloc _)).mono ?_);rintro e w' ⟨rfl,hr'⟩))
   go_ret
   exact⟨ret_str (by rw[HS.out,B_append]),hr'⟩
  ·have HS:=yH (dd_last h0 h)
   go_enter Tryz.func58,Tryz.ntmps58
   go_wp2_with (fail)
   go_ret
   exact⟨ret_str (by rw[HS.out]),hr.alloc _⟩
theorem digits_any(n:Int)(h0:0≤n)(h1:n≤9223372036854775807)(w0 w:World)(hr:Rel w0 w):
  Calls Tryz.prog 58 #[.int .i64 n] w fun e w'=>e= .returned (.string (B (decDigits n.toNat)))∧Rel w0 w':=rdig_any w0 _ n h0 (Nat.le_refl _) h1 w hr
theorem dash(x:List UInt8):(⟨#[45]⟩:ByteArray)++B x=B (45::x):=B_append [45] x
def tx(a:Int):ByteArray:=B (txt a)
theorem num_pos(n:Int)(h:0≤n):num n=B (decDigits n.toNat):=by unfold num itoa;rw[if_neg (by omega)]
theorem num_size(n:Int)(h:0≤n)(h':n≤9223372036854775807):(num n).size≤19:=by rw[num_pos n h];exact dd_size n h'
theorem tx_no{a:Int}(h:rt a=false):(⟨#[]⟩:ByteArray)=tx a:=by unfold tx txt;rw[h];rfl
theorem tx_parts(a:Int)(h:0≤a)(h':a≤1000000000000):B (decDigits (a/100).toNat)++(⟨#[46]⟩:ByteArray)++B (decDigits (a/10%10).toNat)++B (decDigits (a%10).toNat)=tx a:=by
 have e:(⟨#[46]⟩:ByteArray)=B [46]:=rfl
 rw[e,B_append,B_append,B_append]
 unfold tx txt
 rw[rt_yes (by omega) h',if_pos rfl,if_neg (by omega)]
 unfold pos
 rw[show(a/100).toNat=a.natAbs/100 by omega,show(a/10%10).toNat=a.natAbs/10%10 by omega,show(a%10).toNat=a.natAbs%10 by omega]
 simp
theorem tx_neg(a:Int)(h:a<0)(h': -1000000000000≤a):(⟨#[45]⟩:ByteArray)++tx (-a)=tx a:=by
 unfold tx
 rw[dash]
 unfold txt
 rw[rt_yes (a:= -a) (by omega) (by omega),rt_yes (a:=a) h' (by omega),if_pos rfl,if_pos rfl,if_neg (by omega),if_pos h,show(-a).natAbs=a.natAbs by omega]
theorem tx_size(a:Int):(tx a).size≤43:=by
 unfold tx txt
 rw[B_size]
 split
 ·rename_i h
  have hb:=rt_iff.1 h
  have h1:(pos a.natAbs).length≤22:=by
   unfold pos
   have:=nd_le 12 (a.natAbs/100) (by have e:10^12=1000000000000:=by decide
                                     omega) (by omega)
   rw[decDigits_one (show a.natAbs/10%10<10 by omega),decDigits_one (show a.natAbs%10<10 by omega)]
   simp;omega
  split<;>simp<;>omega
 ·simp
theorem rtext_pos(a:Int)(h0:0≤a)(h1:a≤1000000000000)(w0 w:World)(hr:Rel w0 w):
  Calls Tryz.prog 47 #[.int .i64 a] w fun e w'=>e= .returned (.string (tx a))∧Rel w0 w':=by
 have z1:=dd_size (a/100) (by omega)
 have z2:=dd_size (a/10%10) (by omega)
 have z3:=dd_size (a%10) (by omega)
 have HS:=yH (tx_parts a h0 h1)
 go_enter Tryz.func47,Tryz.ntmps47
 go_wp2_with ((go_at_call 58;(with_reducible refine(digits_any _ (by omega) (by omega) _ _ (by assumption)).mono ?_);rintro e w' ⟨rfl,hr'⟩))
 go_ret
 exact⟨ret_str HS.out,by assumption⟩
theorem rtext_any(a:Int)(h0: -9223372036854775808≤a)(h1:a≤9223372036854775807)(w0 w:World)(hr:Rel w0 w):
  Calls Tryz.prog 47 #[.int .i64 a] w fun e w'=>e= .returned (.string (tx a))∧Rel w0 w':=by
 by_cases b1:a< -1000000000000
 ·have HS:=yH (tx_no (a:=a) (rt_no (.inl b1)))
  go_enter Tryz.func47,Tryz.ntmps47
  go_wp2_with (fail)
  go_ret
  exact⟨ret_str HS.out,hr⟩
 ·by_cases b2:1000000000000<a
  ·have HS:=yH (tx_no (a:=a) (rt_no (.inr b2)))
   go_enter Tryz.func47,Tryz.ntmps47
   go_wp2_with (fail)
   go_ret
   exact⟨ret_str HS.out,hr⟩
  ·by_cases hn:0≤a
   ·exact rtext_pos a hn (by omega) w0 w hr
   ·have HS:=yH (tx_neg a (by omega) (by omega))
    have z1:=tx_size (-a)
    go_enter Tryz.func47,Tryz.ntmps47
    go_wp2_with ((go_at_call 47;(with_reducible refine(rtext_pos _ (by omega) (by omega) _ _ (by assumption)).mono ?_);rintro e w' ⟨rfl,hr'⟩))
    go_ret
    exact⟨ret_str HS.out,by assumption⟩
theorem drop_step(s:ByteArray)(pos:Nat)(h:pos<s.size):s.data.toList.drop pos=(s[pos]'h)::s.data.toList.drop (pos+1):=by
 rw[List.drop_eq_getElem_cons (by simpa using h)]
 rfl
theorem drop_end(s:ByteArray)(pos:Nat)(h: ¬pos<s.size):s.data.toList.drop pos=[]:=by
 apply List.drop_eq_nil_of_le
 have:s.data.toList.length=s.size:=by simp
 omega
theorem B_zero(c:UInt8)(t:List UInt8)(h:0<(B (c::t)).size):(B (c::t))[0]'h=c:=rfl
theorem rletter_any(c:UInt8)(w:World):Calls Tryz.prog 68 #[.int .u8 (c.toNat:Int)] w fun e w'=>e= .returned (.bool (isL c))∧w=w':=by
 by_cases h1:97≤c.toNat<;>by_cases h2:c.toNat≤122
 all_goals
  go_enter Tryz.func68,Tryz.ntmps68
  go_wp2
  all_goals
   go_ret
   exact⟨ret_bool (Bool.eq_iff_iff.2 (by simp[isL];omega)),rfl⟩
theorem rdigit_any(c:UInt8)(w:World):Calls Tryz.prog 70 #[.int .u8 (c.toNat:Int)] w fun e w'=>e= .returned (.bool (isD c))∧w=w':=by
 by_cases h1:48≤c.toNat<;>by_cases h2:c.toNat≤57
 all_goals
  go_enter Tryz.func70,Tryz.ntmps70
  go_wp2
  all_goals
   go_ret
   exact⟨ret_bool (Bool.eq_iff_iff.2 (by simp[isD];omega)),rfl⟩
theorem list_of{a b:ByteArray}:(a.toList==b.toList)=true↔a=b:=by
 rw[beq_iff_eq]
 have e1:=B_toList a.data.toList
 have e2:=B_toList b.data.toList
 rw[B_of] at e1 e2
 rw[e1,e2]
 constructor
 ·intro h;rw[←B_of a,h,B_of]
 ·intro h;rw[h]
theorem list_ne{a b:ByteArray}(h:a≠b):(a.toList==b.toList)=false:=by
 cases e:(a.toList==b.toList)
 ·rfl
 ·exact absurd (list_of.1 e) h
theorem word_yes{s:ByteArray}{j:Nat}(hj:j<11)(h:B (theWords.getD j [])=s):isWord s.data.toList=true:=by
 unfold isWord
 rw[List.any_eq_true]
 have hl:theWords.length=11:=rfl
 refine⟨theWords.getD j [], ?_, ?_⟩
 ·rw[List.getD_eq_getElem?_getD,List.getElem?_eq_getElem (by omega)];exact List.getElem_mem _
 ·rw[←h,B_list];simp
theorem word_no{s:ByteArray}(h:∀j<11,B (theWords.getD j [])≠s):isWord s.data.toList=false:=by
 unfold isWord
 rw[List.any_eq_false]
 intro x hx
 obtain⟨j,hj,rfl⟩:=List.getElem_of_mem hx
 have hl:theWords.length=11:=rfl
 intro he
 refine h j (by omega) ?_
 rw[List.getD_eq_getElem?_getD,List.getElem?_eq_getElem hj]
 have he':theWords[j]=s.data.toList:=by simpa using he
 show B theWords[j]=s
 rw[he',B_of]
def wordCells:Array Value:=(theWords.map fun l=>Value.string (B l)).toArray
theorem word_cell{w:World}{g:Nat}(h:Bk w g 9 wordCells)(j:Nat)(hj:j<11):w.cell? ⟨g,j,none⟩=some (.string (B (theWords.getD j []))):=by
 have hl:theWords.length=11:=rfl
 rw[h.cell]
 unfold wordCells
 rw[List.getElem?_toArray,List.getElem?_map,List.getElem?_eq_getElem (by omega),List.getD_eq_getElem?_getD,List.getElem?_eq_getElem (by omega)]
 rfl
theorem rword_any(s:ByteArray)(w0 w:World)(hr:Rel w0 w):
  Calls Tryz.prog 69 #[.string s] w fun e w'=>e= .returned (.bool (isWord s.data.toList))∧Rel w0 w':=by
 have HB:=yH (show Bk (w.alloc (.cells wordCells 9)) w.heap.size 9 wordCells from Bk.new w _ _)
 have HR:=yH (hr.alloc (.cells wordCells 9))
 go_enter Tryz.func69,Tryz.ntmps69
 go_wp2_with (fail)
 go_loopw [4] (fun i wr=>∃j:Nat,j≤11∧i= .int .i64 j∧Hid (∀k<j,B (theWords.getD k [])≠s)∧Hid (wr=w.alloc (.cells wordCells 9))) (fun i _=>11-(RowKit.intOf i).toNat)
 case atStart=>exact⟨0,by omega,rfl,yH (fun k hk=>absurd hk (by omega)),yH rfl⟩
 case round=>
  obtain⟨j,hj,rfl,HN,HW⟩:=hrel
  have hc:=HB.out
  rw[←HW.out] at hc
  by_cases hlt:j<11
  ·have c:=word_cell hc j hlt
   obtain⟨X,hX⟩:∃X,B (theWords.getD j [])=X:=⟨_,rfl⟩
   rw[hX] at c
   have HX:=yH hX
   clear hX
   by_cases he:X=s
   ·have HY:=yH (word_yes hlt (HX.out.trans he))
    have k1:=list_of.2 he
    clear he hc
    go_wp2_with (fail)
    go_ret
    exact⟨ret_bool HY.out.symm,by rw[HW.out];exact HR.out⟩
   ·have k1:=list_ne he
    have HN2:Hid (∀k<j+1,B (theWords.getD k [])≠s):=yH (fun k hk=>by
     rcases Nat.lt_or_ge k j with h|h
     ·exact HN.out k h
     ·obtain rfl:k=j:=by omega
      rw[HX.out];exact he)
    clear he hc
    go_wp2_with (fail)
    go_roundw
    case rel=>exact⟨j+1,by omega,by go_num,HN2,HW⟩
    case measure=>simp[RowKit.intOf];omega
  ·obtain rfl:j=11:=by omega
   have HY:=yH (word_no HN.out)
   clear hc
   go_wp2_with (fail)
   go_ret
   exact⟨ret_bool HY.out.symm,by rw[HW.out];exact HR.out⟩
theorem B_cons_size(c:UInt8)(t:List UInt8):(B (c::t)).size=t.length+1:=by rw[B_size];rfl
def LD(c:UInt8):Bool:=isL c||isD c
theorem name_eq(c:UInt8)(t:List UInt8):isName (c::t)=(decide (t.length+1≤12)&&isL c&& !isWord (c::t)&&(c::t).all LD):=by
 unfold isName LD;simp
theorem all_bad{l:List UInt8}(j:Nat)(h:j<l.length)(hx:LD l[j]=false):l.all LD=false:=by
 rw[List.all_eq_false]
 exact⟨l[j],List.getElem_mem h,by simp[hx]⟩
theorem all_more{l:List UInt8}(j:Nat)(h:j<l.length)(ha:(l.take j).all LD=true)(hx:LD l[j]=true):(l.take (j+1)).all LD=true:=by
 rw[List.take_succ_eq_append_getElem h,List.all_append,ha];simp[hx]
theorem rname_list(l:List UInt8)(hl:l.length≤9223372036854775807)(w0 w:World)(hr:Rel w0 w):
  Calls Tryz.prog 57 #[.string (B l)] w fun e w'=>e= .returned (.bool (isName l))∧Rel w0 w':=by
 cases l with
 |nil=>
  have HT:=B_toList []
  go_enter Tryz.func57,Tryz.ntmps57
  go_wp2_with (fail)
  go_ret
  exact⟨ret_bool rfl,hr⟩
 |cons c t=>
  have HT:=B_toList (c::t)
  have HB:=B_cons_size c t
  have H0:=B_zero c t
  by_cases h12:t.length+1≤12
  ·have z: ¬(12:Int)<(t.length:Int)+1:=by omega
   cases hc:isL c
   ·have HF:=yH (show isName (c::t)=false by rw[name_eq,hc];simp)
    clear hl h12
    go_enter Tryz.func57,Tryz.ntmps57
    go_wp2_with (go_at_call 68;(with_reducible refine(bool_at false (rletter_any c _) (yH hc)).mono ?_);rintro e w' ⟨rfl,rfl⟩)
    go_ret
    exact⟨ret_bool HF.out.symm,hr⟩
   ·cases hw:isWord (c::t)
    ·have HC:=yH hc
     have HWd:=yH (show isWord (B (c::t)).data.toList=false by rw[B_list];exact hw)
     have HW0:=yH hw
     have HR:=yH hr
     clear hw hc
     go_enter Tryz.func57,Tryz.ntmps57
     go_wp2_with (first
      |(go_at_call 68;(with_reducible refine(bool_at true (rletter_any c _) HC).mono ?_);rintro e w' ⟨rfl,rfl⟩)
      |(go_at_call 69;(with_reducible refine(bool_at false (rword_any _ _ _ hr.self) HWd).mono ?_);rintro e w1 ⟨rfl,h1⟩))
     go_loopw [3] (fun i wr=>∃j:Nat,j≤t.length+1∧i= .int .i64 j∧Hid (((c::t).take j).all LD=true)∧wr=w1) (fun i _=>t.length+1-(RowKit.intOf i).toNat)
     case atStart=>exact⟨0,by omega,rfl,yH rfl,rfl⟩
     case round=>
      obtain⟨j,hj,rfl,HA,rfl⟩:=hrel
      by_cases hlt:j<t.length+1
      ·have hlt':j<(c::t).length:=by simpa using hlt
       obtain⟨x,hx⟩:∃x,x=(c::t)[j]:=⟨_,rfl⟩
       have hg:∀h,(B (c::t))[j]'h=x:=fun h=>by rw[hx];rfl
       have HX:=yH hx
       clear hx
       cases hL:isL x<;>cases hD:isD x
       ·have HF:=yH (show isName (c::t)=false by rw[name_eq,all_bad j hlt' (by rw[←HX.out];simp[LD,hL,hD])];simp)
        have HL:=yH hL
        have HD:=yH hD
        clear hL hD
        go_wp2_with (first
             |(go_at_call 68;(with_reducible refine(bool_at false (rletter_any x _) HL).mono ?_);rintro e w' ⟨rfl,rfl⟩)
             |(go_at_call 70;(with_reducible refine(bool_at false (rdigit_any x _) HD).mono ?_);rintro e w' ⟨rfl,rfl⟩))
        go_ret
        exact⟨ret_bool HF.out.symm,HR.out.trans h1⟩
       all_goals
        have HM:=yH (all_more j hlt' HA.out (by rw[←HX.out];simp[LD,hL,hD]))
        have HL:=yH hL
        have HD:=yH hD
        clear hL hD
        go_wp2_with (first
             |(go_at_call 68;(with_reducible refine(bool_at _ (rletter_any x _) HL).mono ?_);rintro e w' ⟨rfl,rfl⟩)
             |(go_at_call 70;(with_reducible refine(bool_at _ (rdigit_any x _) HD).mono ?_);rintro e w' ⟨rfl,rfl⟩))
        go_roundw
        case rel=>exact⟨j+1,by omega,by go_num,HM,trivial⟩
        case measure=>simp[RowKit.intOf];omega
      ·obtain rfl:j=t.length+1:=by omega
       have HY:=yH (show isName (c::t)=true by
        have ha:=HA.out
        rw[List.take_of_length_le (by simp)] at ha
        rw[name_eq,ha,HC.out,HW0.out,decide_eq_true h12];rfl)
       go_wp2_with (fail)
       go_ret
       exact⟨ret_bool HY.out.symm,HR.out.trans h1⟩
    ·have HC:=yH hc
     have HWd:=yH (show isWord (B (c::t)).data.toList=true by rw[B_list];exact hw)
     have HF:=yH (show isName (c::t)=false by rw[name_eq,hw];simp)
     clear hw hc
     go_enter Tryz.func57,Tryz.ntmps57
     go_wp2_with (first
      |(go_at_call 68;(with_reducible refine(bool_at true (rletter_any c _) HC).mono ?_);rintro e w' ⟨rfl,rfl⟩)
      |(go_at_call 69;(with_reducible refine(bool_at true (rword_any _ _ _ hr.self) HWd).mono ?_);rintro e w1 ⟨rfl,h1⟩))
     go_ret
     exact⟨ret_bool HF.out.symm,hr.trans h1⟩
  ·have HF:=yH (show isName (c::t)=false by rw[name_eq,decide_eq_false h12];simp)
   have z:(12:Int)<(t.length:Int)+1:=by omega
   clear h12
   go_enter Tryz.func57,Tryz.ntmps57
   go_wp2_with (fail)
   go_ret
   exact⟨ret_bool HF.out.symm,hr⟩
theorem rname_any(s:ByteArray)(hs:s.size≤9223372036854775807)(w0 w:World)(hr:Rel w0 w):
  Calls Tryz.prog 57 #[.string s] w fun e w'=>e= .returned (.bool (isName s.data.toList))∧Rel w0 w':=by
 have:=rname_list s.data.toList (by simpa using hs) w0 w hr
 rwa [B_of] at this
theorem tok_word{l:List UInt8}(h:isWord l=true∨isName l=true):tokOf l=some (1,0):=by
 unfold tokOf;rw[if_pos];rcases h with h|h<;>simp[h]
theorem tok_count{l:List UInt8}(h:isWord l=false)(h':isName l=false)(hc:0≤cnt l 100000):tokOf l=some (2,cnt l 100000):=by
 unfold tokOf;rw[if_neg (by simp[h,h']),if_pos hc]
theorem tok_money{l:List UInt8}(h:isWord l=false)(h':isName l=false)(hc: ¬0≤cnt l 100000):tokOf l=(prs l).map fun a=>(3,a):=by
 unfold tokOf;rw[if_neg (by simp[h,h']),if_neg hc];cases prs l<;>rfl
theorem rcond_any(k:Int)(w:World):Calls Tryz.prog 44 #[.int .i64 k] w fun e w'=>e= .returned (.bool (isCond k))∧w=w':=by
 cases h1:(k==11)<;>cases h2:(k==12)
 all_goals
  have HF:=yH (show isCond k=(_||_) from rfl)
  rw[h1,h2] at HF
  go_enter Tryz.func44,Tryz.ntmps44
  go_wp2_with (fail)
  go_ret
  exact⟨ret_bool HF.out.symm,rfl⟩
theorem rmost_any(k:Int)(w:World):Calls Tryz.prog 56 #[.int .i64 k] w fun e w'=>e= .returned (.int .i64 (mostN k))∧w=w':=by
 rcases kinds k with h|⟨k1,k2,k3,k4,k5,k6,k7,k8,k9,k10,k11,k12,_,ha,_⟩
 ·rcases h with rfl|rfl|rfl|rfl|rfl|rfl|rfl|rfl|rfl|rfl|rfl|rfl
  all_goals
   go_enter Tryz.func56,Tryz.ntmps56
   go_wp2_with (fail)
   go_ret
   exact⟨rfl,rfl⟩
 ·have HA:=yH ha
  clear ha
  go_enter Tryz.func56,Tryz.ntmps56
  go_wp2_with (fail)
  go_ret
  exact⟨ret_int HA.out.symm,rfl⟩
theorem sizes_take(l:List Ex)(j:Nat)(h:j<l.length):sizes (l.take (j+1))=sizes (l.take j)+size l[j]:=by
 rw[List.take_succ_eq_append_getElem h,sizes_append,sizes_cons,sizes_nil];omega
theorem ExAt.arg{S:Nat→Prop}{w wr:World}{A:Option Addr}{es:List El}{l:List Ex}(hrow:RowE S w A es)(hsub:∀i (h:i<es.length) (h':i<l.length),ExAt S w es[i] l[i])(hl:es.length=l.length)(hr:Rel w wr)(j:Nat)(hj:j<l.length):
  ∃(g off:Nat)(k n:Int)(nm:List UInt8)(A':Option Addr)(m c:Nat),A=some ⟨g,off,none⟩∧wr.cell? ⟨g,off+j*4,none⟩=some (.int .i64 k)∧wr.cell? ⟨g,off+j*4+1,none⟩=some (.int .i64 n)∧wr.cell? ⟨g,off+j*4+2,none⟩=some (.string (B nm))∧wr.cell? ⟨g,off+j*4+3,none⟩=some (.slice A' m c)∧ExAt S wr (k,n,nm,A',m,c) l[j]:=by
 obtain⟨g,off,e,hl2,_,h0,h1,h2,h3⟩:=hrow j (by omega)
 have hs:=(hsub j (by omega) hj).rel hr
 generalize es[j]=e0 at*
 obtain⟨k,n,nm,A',m,c⟩:=e0
 have hk:∀i,wr.cell? ⟨g,i,none⟩=w.cell? ⟨g,i,none⟩:=fun i=>hr.2.cell (p:=⟨g,i,none⟩) hl2
 exact⟨g,off,k,n,nm,A',m,c,e,by rw[hk];exact h0,by rw[hk];exact h1,by rw[hk];exact h2,by rw[hk];exact h3,hs⟩
theorem rsize_any:∀(x:Ex)(S:Nat→Prop)(e:El)(w0 w:World),Rel w0 w→ExAt S w e x→size x≤1000000→
  Calls Tryz.prog 45 #[EV e] w fun r w'=>r= .returned (.int .i64 (size x:Int))∧Rel w0 w':=ex_ind fun k n nm l ih S e w0 w hr h hz=>by
 obtain⟨A,c,es,rfl,hk,hn,hm,hl,hrow,hsub⟩:=h.open
 have HRow:=yH hrow
 have HSub:=yH hsub
 have HIH:=yH (fun j hj=>ih _ (List.getElem_mem (l:=l) (n:=j) hj))
 have HR:=yH hr
 rw[size_mk] at hz
 have HZ:=yH (size_mk k n nm l)
 have hll:l.length≤1000000:=by
  have:∀l:List Ex,l.length≤sizes l:=fun l=>by
   induction l with
   |nil=>simp
   |cons x t ih=>rw[sizes_cons,List.length_cons];have:=size_pos x;omega
  have:=this l;omega
 have HB:=yH (Bk.new w 54 #[.int .i64 k,.int .i64 n,.string (B nm),.slice A l.length c])
 have HA:=yH (hr.self.alloc (.cells #[.int .i64 k,.int .i64 n,.string (B nm),.slice A l.length c] 54))
 obtain⟨W,hW⟩:∃W,w.alloc (.cells #[.int .i64 k,.int .i64 n,.string (B nm),.slice A l.length c] 54)=W:=⟨_,rfl⟩
 rw[hW] at HB HA
 have HW:=yH hW
 clear hrow hsub ih h hW
 go_enter Tryz.func45,Tryz.ntmps45
 go_wp2_with (fail)
 rw[HW.out]
 go_loopw [3,4] (fun n i wr=>∃j:Nat,j≤l.length∧i= .int .i64 (j:Int)∧Hid (n= .int .i64 ((1+sizes (l.take j):Nat):Int))∧Rel W wr) (fun _ i _=>l.length-(RowKit.intOf i).toNat)
 case atStart=>exact⟨0,by omega,rfl,yH (by simp[sizes_nil]),(HR.out.trans HA.out).self⟩
 case round=>
  obtain⟨j,hj,rfl,HN,hRw⟩:=hrel
  have hb:=HB.out.rel hRw
  obtain⟨⟨c0,c1,c2,c3⟩,_⟩:=hb.four
  obtain⟨q,hq⟩:∃q:Nat,1+sizes (l.take j)=q:=⟨_,rfl⟩
  have hn':=HN.out
  rw[hq] at hn'
  subst hn'
  have HQ:=yH hq
  have HRw:=yH hRw
  clear hb hq
  by_cases hlt:j<l.length
  ·obtain⟨g,off,k',n',nm',A',m',c',hA,a0,a1,a2,a3,ha⟩:=ExAt.arg HRow.out HSub.out hl (HA.out.trans hRw) j hlt
   subst hA
   have hsz:size l[j]+q≤1000000:=by
    have e1:=sizes_take l j hlt
    have e2:sizes (l.take (j+1))≤sizes l:=by
     have:sizes l=sizes (l.take (j+1))+sizes (l.drop (j+1)):=by rw[←sizes_append,List.take_append_drop]
     omega
    have:=HQ.out;omega
   obtain⟨sj,hsj⟩:∃s,size l[j]=s:=⟨_,rfl⟩
   have HNx:=yH (show 1+sizes (l.take (j+1))=q+sj by rw[sizes_take l j hlt,hsj];have:=HQ.out;omega)
   rw[hsj] at hsz
   have HC:=yH (HIH.out j hlt S (k',n',nm',A',m',c') wr wr ((HR.out.trans HA.out).trans hRw).self ha (by rw[hsj];omega))
   rw[hsj] at HC
   clear ha hsj
   go_wp2_with (go_at_call 45;(with_reducible refine HC.out.mono ?_);rintro e w2 ⟨rfl,h2⟩)
   go_roundw
   case rel=>exact⟨j+1,by omega,by go_num,yH (by rw[HNx.out];go_num),HRw.out.trans h2⟩
   case measure=>simp[RowKit.intOf];omega
  ·obtain rfl:j=l.length:=by omega
   have HF:=yH (show size (.mk k n nm l)=q by have:=HQ.out;rw[List.take_length] at this;rw[size_mk,this])
   go_wp2_with (fail)
   go_ret
   exact⟨ret_int (by rw[HF.out]),(HR.out.trans HA.out).trans HRw.out⟩
theorem wordK_other{k:Int}(h:(k==1)=false∧(k==2)=false∧(k==3)=false∧(k==5)=false∧(k==6)=false∧(k==7)=false∧(k==8)=false∧(k==9)=false∧(k==10)=false∧(k==11)=false∧(k==12)=false):wordK k=[]:=by
 simp only[beq_eq_false_iff_ne] at h
 unfold wordK
 obtain⟨h1,h2,h3,h5,h6,h7,h8,h9,h10,h11,h12⟩:=h
 rw[if_neg h1,if_neg h2,if_neg h3,if_neg h5,if_neg h6,if_neg h7,if_neg h8,if_neg h9,if_neg h10,if_neg h11,if_neg h12]
def wordCells7:Array Value:= #[.string ⟨#[]⟩,.string ⟨#[108,111,119,101,115,116]⟩,.string ⟨#[115,101,99,111,110,100]⟩,.string ⟨#[102,114,111,109]⟩,.string ⟨#[]⟩,.string ⟨#[108,101,115,115]⟩,.string ⟨#[99,117,116]⟩,.string ⟨#[109,105,110]⟩,.string ⟨#[109,97,120]⟩,.string ⟨#[101,108,115,101]⟩,.string ⟨#[105,102]⟩,.string ⟨#[109,111,114,101]⟩,.string ⟨#[97,98,111,118,101]⟩]
theorem rword7_any(k:Int)(hk:i64 k)(w0 w:World)(hr:Rel w0 w):
  Calls Tryz.prog 46 #[.int .i64 k] w fun e w'=>e= .returned (.string (B (wordK k)))∧Rel w0 w':=by
 have k0:=hk.1
 have k9:=hk.2
 rcases kinds k with h|⟨k1,k2,k3,k4,k5,k6,k7,k8,k9,k10,k11,k12,_⟩
 ·rcases h with rfl|rfl|rfl|rfl|rfl|rfl|rfl|rfl|rfl|rfl|rfl|rfl
  all_goals
   have HR:=yH (hr.alloc (.cells wordCells7 9))
   go_enter Tryz.func46,Tryz.ntmps46
   go_wp2_with (fail)
   go_ret
   exact⟨rfl,HR.out⟩
 ·have HE:=yH (wordK_other ⟨k1,k2,k3,k5,k6,k7,k8,k9,k10,k11,k12⟩)
  have HR:=yH (hr.alloc (.cells wordCells7 9))
  have hw:k<0∨(¬k<0∧13≤k)∨k=0:=by simp only[beq_eq_false_iff_ne] at*;omega
  clear k1 k2 k3 k4 k5 k6 k7 k8 k9 k10 k11 k12
  rcases hw with h|⟨h,h2⟩|rfl
  all_goals
   go_enter Tryz.func46,Tryz.ntmps46
   go_wp2_with (fail)
   go_ret
   exact⟨ret_str (by rw[HE.out];rfl),HR.out⟩
end Go.Proofs.YtjhjdiaomnpkmaaGreatDoor
