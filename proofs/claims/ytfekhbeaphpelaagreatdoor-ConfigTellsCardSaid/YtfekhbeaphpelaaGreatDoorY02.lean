/- Plain mathematics of layer 14. -/

import Derived.Test.YtfekhbeaphpelaaGreatDoorY01
set_option maxRecDepth 100000
set_option maxHeartbeats 8000000
set_option linter.unusedVariables false
set_option linter.unusedSimpArgs false
namespace Go.Proofs.YtfekhbeaphpelaaGreatDoor
open Go.Lib
abbrev Cf:=Int×Int×Int×Int×Int×List UInt8
abbrev flC(c:Cf):Int:=c.1
abbrev ceC(c:Cf):Int:=c.2.1
abbrev mpC(c:Cf):Int:=c.2.2.1
abbrev coC(c:Cf):Int:=c.2.2.2.1
abbrev bdC(c:Cf):Int:=c.2.2.2.2.1
abbrev txC(c:Cf):List UInt8:=c.2.2.2.2.2
def numsOk(c:Cf):Bool:=decide (1≤flC c∧flC c≤ceC c∧ceC c≤1000000000000∧0≤mpC c∧mpC c≤ceC c∧0≤coC c∧coC c≤1048576∧0≤bdC c∧bdC c≤1000000000000)
def textE(t:List UInt8):Int:=match parseS t with| .error p=>p.1| .ok x=>if rightX x then 0 else 1
def checkC(c:Cf):Int:=if numsOk c then textE (txC c) else 10
def lowC(c:Cf):Int:=max (flC c) (mpC c)
def withinC(c:Cf)(p:Int):Bool:=decide (checkC c=0∧lowC c≤p∧p≤ceC c)
def clampC(n l h:Int):Int:=max l (min n h)
def tellT(t:List UInt8)(os:List (List UInt8×Int)):Option Int:=match parseS t with| .ok x=>(match evalS os x with| .ok (some n)=>some n|_=>none)| .error _=>none
def targetC(c:Cf)(os:List (List UInt8×Int)):Option Int:=if checkC c=0 then (tellT (txC c) os).map fun n=>clampC n (lowC c) (ceC c) else none
def targN(c:Cf)(os:List (List UInt8×Int)):Int:=(targetC c os).getD 0
def targI(c:Cf)(os:List (List UInt8×Int)):Bool:=(targetC c os).isSome
theorem nums_iff{c:Cf}:numsOk c=true↔1≤flC c∧flC c≤ceC c∧ceC c≤1000000000000∧0≤mpC c∧mpC c≤ceC c∧0≤coC c∧coC c≤1048576∧0≤bdC c∧bdC c≤1000000000000:=by
 unfold numsOk;rw[decide_eq_true_eq]
theorem textE_error{t:List UInt8}{e p:Int}(h:parseS t= .error (e,p)):textE t=e:=by unfold textE;rw[h]
theorem textE_ok{t:List UInt8}{x:Ex}(h:parseS t= .ok x):textE t=if rightX x then 0 else 1:=by unfold textE;rw[h]
theorem check_zero{c:Cf}:checkC c=0↔numsOk c=true∧textE (txC c)=0:=by
 unfold checkC
 by_cases h:numsOk c=true
 ·rw[if_pos h];exact⟨fun e=>⟨h,e⟩,fun e=>e.2⟩
 ·rw[if_neg h];exact⟨fun e=>by omega,fun e=>absurd e.1 h⟩
theorem textE_zero{t:List UInt8}:textE t=0↔∃x,parseS t= .ok x∧rightX x=true:=by
 unfold textE
 cases h:parseS t with
 |error p=>
  obtain⟨e,q⟩:=p
  have:=((parse_spec t).2 e q h).1
  constructor
  ·intro h0
   have h0:e=0:=h0
   omega
  ·rintro⟨x,hx,_⟩
   cases hx
 |ok x=>
  by_cases hr:rightX x=true
  ·exact⟨fun _=>⟨x,rfl,hr⟩,fun _=>if_pos hr⟩
  ·refine⟨fun h0=> ?_, ?_⟩
   ·have h0:(if rightX x then (0:Int) else 1)=0:=h0
    rw[if_neg hr] at h0;omega
   ·rintro⟨y,hy,hyr⟩
    injection hy with hy
    subst hy
    exact absurd hyr hr
theorem low_le{c:Cf}(h:numsOk c=true):lowC c≤ceC c:=by
 have:=nums_iff.1 h;unfold lowC;omega
theorem target_of{c:Cf}(hn:numsOk c=true)(ht:textE (txC c)=0)(os:List (List UInt8×Int)):targetC c os=(tellT (txC c) os).map fun n=>clampC n (lowC c) (ceC c):=by
 unfold targetC;rw[if_pos (check_zero.2 ⟨hn,ht⟩)]
theorem text_right{x:Ex}(h:rightX x=true):textE (text x)=0:=by rw[textE_ok (parse_text h),if_pos h]
end Go.Proofs.YtfekhbeaphpelaaGreatDoor

namespace Go.Proofs.YtfekhbeaphpelaaGreatDoor
open Go.RowKit Go.Lib
theorem blk_of_cell{w:World}{a:Addr}{v:Value}(h:w.cell? a=some v):a.block<w.heap.size:=by
 rcases Nat.lt_or_ge a.block w.heap.size with hn|hn
 ·exact hn
 ·simp[World.cell?,Array.getElem?_eq_none hn] at h
theorem block_add(a:Addr)(n:Nat):(a.add n).block=a.block:=by unfold Addr.add;split<;>rfl
def Bk(w:World)(g:Nat)(t:TypeId)(cs:Array Value):Prop:=w.heap[g]?=some (.cells cs t (0,0))
theorem Bk.lt{w:World}{g:Nat}{t:TypeId}{cs:Array Value}(h:Bk w g t cs):g<w.heap.size:=by
 rcases Nat.lt_or_ge g w.heap.size with h'|h'
 ·exact h'
 ·unfold Bk at h;rw[Array.getElem?_eq_none h'] at h;cases h
theorem Bk.cell{w:World}{g:Nat}{t:TypeId}{cs:Array Value}(h:Bk w g t cs)(i:Nat):w.cell? ⟨g,i,none⟩=cs[i]?:=cell_of_row w g i cs t (0,0) h
theorem Bk.frozen{w:World}{g:Nat}{t:TypeId}{cs:Array Value}(h:Bk w g t cs)(i:Nat):w.frozen? ⟨g,i,none⟩=false:=by
 unfold Bk at h;simp[World.frozen?,h]
theorem Bk.new(w:World)(t:TypeId)(cs:Array Value):Bk (w.alloc (.cells cs t)) w.heap.size t cs:=heap_alloc_new w _
theorem Bk.alloc{w:World}{g:Nat}{t:TypeId}{cs:Array Value}(h:Bk w g t cs)(o:Obj):Bk (w.alloc o) g t cs:=(Below.heap_alloc w o g h.lt).trans h
theorem Bk.set_{w:World}{g:Nat}{t:TypeId}{cs:Array Value}(h:Bk w g t cs)(i:Nat)(u:Value):Bk (w.setCell ⟨g,i,none⟩ u) g t (cs.setIfInBounds i u):=by
 unfold Bk at h⊢
 simp[World.setCell,Array.getElem?_modify,h]
theorem Bk.far{w:World}{g:Nat}{t:TypeId}{cs:Array Value}(h:Bk w g t cs){p:Addr}(hp:g≠p.block)(u:Value):Bk (w.setCell p u) g t cs:=(Below.heap_setCell w p u g hp).trans h
theorem Bk.rel{w w':World}{g:Nat}{t:TypeId}{cs:Array Value}(h:Bk w g t cs)(hr:Rel w w'):Bk w' g t cs:=(hr.2.block g h.lt).trans h
theorem Bk.grown{w w':World}{g:Nat}{t:TypeId}{cs:Array Value}(h:Bk w g t cs){row:Option Nat}(hb:w.grownBy w' row)(hg:some g≠row):Bk w' g t cs:=(hb.block g h.lt hg).trans h
theorem Bk.drew{w:World}{g:Nat}{t:TypeId}{cs:Array Value}(h:Bk w g t cs):Bk w.drew g t cs:=h
theorem Bk.ne{w:World}{g g':Nat}{t t':TypeId}{cs cs':Array Value}(h:Bk w g t cs)(h':Bk w g' t' cs')(hne:t≠t'):g≠g':=by
 rintro rfl
 unfold Bk at h h'
 rw[h] at h'
 injection h' with h'
 injection h' with _ ht
 exact hne ht
theorem own_ne{w:World}{base:Nat}{e:TypeId}{size n:Nat}{v:Value}{xs:List Value}{g:Nat}{t:TypeId}{cs:Array Value}(h:w.ownsRow base e size v n xs)(hg:Bk w g t cs)(hne:e≠t):some g≠v.ownBlock:=by
 rcases h.2 with ⟨rfl,_⟩|⟨g',cap,cur,rfl,_,hh,_⟩
 ·simp[Value.ownBlock]
 ·intro he
  have:g=g':=by simpa [Value.ownBlock] using he
  subst this
  exact Bk.ne (t:=e) hh hg hne rfl
theorem Rel.grown{w0 w w':World}(h:Rel w0 w){row:Option Nat}(hg:w.grownBy w' row)(hr:∀k,row=some k→w0.heap.size≤k):Rel w0 w':=⟨h.1,Below.grown h.2 hg h.2.size hr⟩
theorem own_rel{w w':World}{base:Nat}{e:TypeId}{size n:Nat}{v:Value}{xs:List Value}(h:w.ownsRow base e size v n xs)(hr:Rel w w'):w'.ownsRow base e size v n xs:=
 h.kept (row:=none) ⟨hr.2.os,hr.2.tape,hr.2.output,hr.2.size,fun k hk _=>hr.2.block k hk⟩ (by cases v.ownBlock<;>simp)
theorem own_set{w:World}{base:Nat}{e:TypeId}{size n:Nat}{v:Value}{xs:List Value}(h:w.ownsRow base e size v n xs){p:Addr}(hp:some p.block≠v.ownBlock)(u:Value):(w.setCell p u).ownsRow base e size v n xs:=
 h.kept (row:=some p.block) ⟨rfl,rfl,rfl,by simp,fun k hk hne=>Below.heap_setCell w p u k (fun e=>hne (by rw[e]))⟩ (by
  cases hv:v.ownBlock with
  |none=>exact .inl rfl
  |some k=>exact .inr (by rw[hv] at hp;exact Ne.symm hp))
theorem own_slice{w:World}{base:Nat}{e:TypeId}{size n:Nat}{v:Value}{xs:List Value}(h:w.ownsRow base e size v n xs):∃A c,v= .slice A n c∧c≤maxLen:=by
 rcases h.2 with ⟨rfl,rfl⟩|⟨g,cap,cur,rfl,_,_,_,hm,_⟩
 ·exact⟨none,0,rfl,Nat.zero_le _⟩
 ·exact⟨_,cap,rfl,hm⟩
theorem addr_at(g off k:Nat):(⟨g,off,none⟩:Addr).add k=⟨g,off+k,none⟩:=by unfold Addr.add;split<;>simp_all
theorem Bk.two{w:World}{g:Nat}{t:TypeId}{x y:Value}(h:Bk w g t #[x,y]):
  (w.cell? ⟨g,0,none⟩=some x∧w.cell? ⟨g,1,none⟩=some y)∧(w.frozen? ⟨g,0,none⟩=false∧w.frozen? ⟨g,1,none⟩=false):=
 ⟨⟨h.cell 0,h.cell 1⟩,⟨h.frozen 0,h.frozen 1⟩⟩
theorem Bk.put{w:World}{g:Nat}{t:TypeId}{x y:Value}(h:Bk w g t #[x,y])(a b:Value):Bk ((w.setCell ⟨g,0,none⟩ a).setCell ⟨g,1,none⟩ b) g t #[a,b]:=
 (h.set_ 0 a).set_ 1 b
abbrev TK(t:Tok):Value:= .agg #[yI t.1,.string (B t.2.1),yI t.2.2.1,yI t.2.2.2]
def cells4(t:Tok):List Value:=[yI t.1,.string (B t.2.1),yI t.2.2.1,yI t.2.2.2]
def cellsOf(ts:List Tok):List Value:=ts.flatMap cells4
theorem cellsOf_snoc(ts:List Tok)(t:Tok):cellsOf (ts++[t])=cellsOf ts++cells4 t:=by simp[cellsOf]
theorem cellsOf_at(ts:List Tok)(i:Nat)(h:i<ts.length):
  (cellsOf ts)[i*4]?=some (yI ts[i].1)∧(cellsOf ts)[i*4+1]?=some (.string (B ts[i].2.1))∧(cellsOf ts)[i*4+2]?=some (yI ts[i].2.2.1)∧(cellsOf ts)[i*4+3]?=some (yI ts[i].2.2.2):=by
 induction ts generalizing i with
 |nil=>simp at h
 |cons e t ih=>
  have hc:cellsOf (e::t)=cells4 e++cellsOf t:=rfl
  cases i with
  |zero=>rw[hc];exact⟨rfl,rfl,rfl,rfl⟩
  |succ i=>
   obtain⟨h1,h2,h3,h4⟩:=ih i (by simpa using h)
   have l4:(cells4 e).length=4:=rfl
   refine⟨?_, ?_, ?_, ?_⟩
   ·rw[hc,List.getElem?_append_right (by omega),show(i+1)*4-(cells4 e).length=i*4 by omega];exact h1
   ·rw[hc,List.getElem?_append_right (by omega),show(i+1)*4+1-(cells4 e).length=i*4+1 by omega];exact h2
   ·rw[hc,List.getElem?_append_right (by omega),show(i+1)*4+2-(cells4 e).length=i*4+2 by omega];exact h3
   ·rw[hc,List.getElem?_append_right (by omega),show(i+1)*4+3-(cells4 e).length=i*4+3 by omega];exact h4
def ToksAt(w:World)(A:Option Addr)(ts:List Tok):Prop:=
 ∀i (h:i<ts.length),∃(g off:Nat),A=some ⟨g,off,none⟩∧g<w.heap.size∧w.cell? ⟨g,off+i*4,none⟩=some (yI ts[i].1)∧w.cell? ⟨g,off+i*4+1,none⟩=some (.string (B ts[i].2.1))∧
  w.cell? ⟨g,off+i*4+2,none⟩=some (yI ts[i].2.2.1)∧w.cell? ⟨g,off+i*4+3,none⟩=some (yI ts[i].2.2.2)
theorem ToksAt.nil(w:World)(A:Option Addr):ToksAt w A []:=fun i h=>absurd h (by simp)
theorem ToksAt.below{w w':World}{A:Option Addr}{ts:List Tok}(h:ToksAt w A ts)(hb:Below w.heap.size w w'):ToksAt w' A ts:=by
 intro i hi
 obtain⟨g,off,e,hl,h0,h1,h2,h3⟩:=h i hi
 have hk:∀j,w'.cell? ⟨g,j,none⟩=w.cell? ⟨g,j,none⟩:=fun j=>hb.cell (p:=⟨g,j,none⟩) hl
 exact⟨g,off,e,by have:=hb.size;omega,by rw[hk];exact h0,by rw[hk];exact h1,by rw[hk];exact h2,by rw[hk];exact h3⟩
theorem ToksAt.rel{w w':World}{A:Option Addr}{ts:List Tok}(h:ToksAt w A ts)(hr:Rel w w'):ToksAt w' A ts:=h.below hr.2
def TokOwn(w:World)(base:Nat)(v:Value)(ts:List Tok):Prop:=w.ownsRow base 78 4 v ts.length (cellsOf ts)
theorem TokOwn.nil(w:World)(base:Nat):TokOwn w base (.slice none 0 0) []:=World.ownsRow_nil _ _ _ _
theorem TokOwn.rel{w w':World}{base:Nat}{v:Value}{ts:List Tok}(h:TokOwn w base v ts)(hr:Rel w w'):TokOwn w' base v ts:=own_rel h hr
theorem TokOwn.toks{w:World}{base:Nat}{A:Option Addr}{n c:Nat}{ts:List Tok}(h:TokOwn w base (.slice A n c) ts)(hn:n=ts.length):ToksAt w A ts:=by
 intro i hi
 have h:w.ownsRow base 78 4 (.slice A n c) ts.length (cellsOf ts):=h
 rcases h.2 with ⟨h0,h1⟩|⟨g,cap,cur,hv,hb,hh,_⟩
 ·omega
 ·have hA:A=some ⟨g,0,none⟩:=by injection hv
  obtain⟨c0,c1,c2,c3⟩:=cellsOf_at ts i hi
  have hc:=h.cells (g:=g) (by rw[hA];rfl)
  have q0:=hc _ _ c0
  have q1:=hc _ _ c1
  have q2:=hc _ _ c2
  have q3:=hc _ _ c3
  rw[addr_at] at q0 q1 q2 q3
  refine⟨g,0,hA,Bk.lt (t:=78) hh, ?_, ?_, ?_, ?_⟩
  ·exact q0
  ·rw[Nat.add_assoc];exact q1
  ·rw[Nat.add_assoc];exact q2
  ·rw[Nat.add_assoc];exact q3
theorem TokOwn.more{w1:World}{base g cap:Nat}{ts:List Tok}{t:Tok}
  (hown1:w1.ownsRow base 78 4 (.slice (some ⟨g,0,none⟩) (ts.length+1) cap) (ts.length+1) (cellsOf ts++cells4 t)):TokOwn w1 base (.slice (some ⟨g,0,none⟩) (ts.length+1) cap) (ts++[t]):=by
 unfold TokOwn
 rw[cellsOf_snoc,show(ts++[t]).length=ts.length+1 by simp];exact hown1
theorem tok_info:(Tryz.prog.info? 78).map (fun i=>(i.zero,i.size,i.bytes))=some (some (.agg #[yI 0,.string ⟨#[]⟩,yI 0,yI 0]),4,40):=by kernel_rfl
theorem cells4_one(t:Tok):∀u∈cells4 t,u.oneCell'=true:=by
 intro u hu
 simp only[cells4,List.mem_cons,List.not_mem_nil,or_false] at hu
 rcases hu with rfl|rfl|rfl|rfl<;>rfl
def PairsAt(w:World)(A:Option Addr)(zs:List (Int×Int)):Prop:=
 ∀i (h:i<zs.length),∃(a:Addr),A=some a∧a.block<w.heap.size∧w.cell? (a.add (i*2))=some (yI zs[i].1)∧w.cell? (a.add (i*2+1))=some (yI zs[i].2)
theorem PairsAt.below{w w':World}{A:Option Addr}{zs:List (Int×Int)}(h:PairsAt w A zs)(hb:Below w.heap.size w w'):PairsAt w' A zs:=by
 intro i hi
 obtain⟨a,e,hl,h0,h1⟩:=h i hi
 have hk:∀j,w'.cell? (a.add j)=w.cell? (a.add j):=fun j=>hb.cell (p:=a.add j) (by rw[block_add];exact hl)
 exact⟨a,e,by have:=hb.size;omega,by rw[hk];exact h0,by rw[hk];exact h1⟩
theorem PairsAt.rel{w w':World}{A:Option Addr}{zs:List (Int×Int)}(h:PairsAt w A zs)(hr:Rel w w'):PairsAt w' A zs:=h.below hr.2
def PairsIn(w:World)(A:Option Addr)(n:Nat)(zs:List (Int×Int)):Prop:=zs.length=n∧n≤9223372036854775807∧(∀z∈zs,(-9223372036854775808≤z.1∧z.1≤9223372036854775807)∧(-9223372036854775808≤z.2∧z.2≤9223372036854775807))∧PairsAt w A zs
theorem Bk.four{w:World}{g:Nat}{t:TypeId}{x y z u:Value}(h:Bk w g t #[x,y,z,u]):
  (w.cell? ⟨g,0,none⟩=some x∧w.cell? ⟨g,1,none⟩=some y∧w.cell? ⟨g,2,none⟩=some z∧w.cell? ⟨g,3,none⟩=some u)∧(w.frozen? ⟨g,0,none⟩=false∧w.frozen? ⟨g,1,none⟩=false∧w.frozen? ⟨g,2,none⟩=false∧w.frozen? ⟨g,3,none⟩=false):=
 ⟨⟨h.cell 0,h.cell 1,h.cell 2,h.cell 3⟩,⟨h.frozen 0,h.frozen 1,h.frozen 2,h.frozen 3⟩⟩
theorem Bk.put4{w:World}{g:Nat}{t:TypeId}{x y z u:Value}(h:Bk w g t #[x,y,z,u])(a b c d:Value):Bk ((((w.setCell ⟨g,0,none⟩ a).setCell ⟨g,1,none⟩ b).setCell ⟨g,2,none⟩ c).setCell ⟨g,3,none⟩ d) g t #[a,b,c,d]:=
 (((h.set_ 0 a).set_ 1 b).set_ 2 c).set_ 3 d
theorem Bk.snd(w:World)(cs cs':Array Value)(t t':TypeId):Bk ((w.alloc (.cells cs t)).alloc (.cells cs' t')) (w.heap.size+1) t' cs':=by
 have h:=Bk.new (w.alloc (.cells cs t)) t' cs'
 rw[World.size_alloc] at h
 exact h
theorem Rel.put4{w0 w:World}(h:Rel w0 w){g:Nat}(hg:w0.heap.size≤g)(a b c d:Value):Rel w0 ((((w.setCell ⟨g,0,none⟩ a).setCell ⟨g,1,none⟩ b).setCell ⟨g,2,none⟩ c).setCell ⟨g,3,none⟩ d):=
 (((h.setCell hg a).setCell hg b).setCell hg c).setCell hg d
abbrev TB(w:World)(g:Nat)(t:Tok):Prop:=Bk w g 78 #[yI t.1,.string (B t.2.1),yI t.2.2.1,yI t.2.2.2]
abbrev El:=Int×Int×List UInt8×Option Addr×Nat×Nat
abbrev EV(e:El):Value:= .agg #[yI e.1,yI e.2.1,.string (B e.2.2.1),.slice e.2.2.2.1 e.2.2.2.2.1 e.2.2.2.2.2]
def cellsE(e:El):List Value:=[yI e.1,yI e.2.1,.string (B e.2.2.1),.slice e.2.2.2.1 e.2.2.2.2.1 e.2.2.2.2.2]
def cellsEs(es:List El):List Value:=es.flatMap cellsE
theorem cellsEs_snoc(es:List El)(e:El):cellsEs (es++[e])=cellsEs es++cellsE e:=by simp[cellsEs]
theorem cellsEs_at(es:List El)(i:Nat)(h:i<es.length):
  (cellsEs es)[i*4]?=some (yI es[i].1)∧(cellsEs es)[i*4+1]?=some (yI es[i].2.1)∧(cellsEs es)[i*4+2]?=some (.string (B es[i].2.2.1))∧(cellsEs es)[i*4+3]?=some (.slice es[i].2.2.2.1 es[i].2.2.2.2.1 es[i].2.2.2.2.2):=by
 induction es generalizing i with
 |nil=>simp at h
 |cons e t ih=>
  have hc:cellsEs (e::t)=cellsE e++cellsEs t:=rfl
  cases i with
  |zero=>rw[hc];exact⟨rfl,rfl,rfl,rfl⟩
  |succ i=>
   obtain⟨h1,h2,h3,h4⟩:=ih i (by simpa using h)
   have l4:(cellsE e).length=4:=rfl
   refine⟨?_, ?_, ?_, ?_⟩
   ·rw[hc,List.getElem?_append_right (by omega),show(i+1)*4-(cellsE e).length=i*4 by omega];exact h1
   ·rw[hc,List.getElem?_append_right (by omega),show(i+1)*4+1-(cellsE e).length=i*4+1 by omega];exact h2
   ·rw[hc,List.getElem?_append_right (by omega),show(i+1)*4+2-(cellsE e).length=i*4+2 by omega];exact h3
   ·rw[hc,List.getElem?_append_right (by omega),show(i+1)*4+3-(cellsE e).length=i*4+3 by omega];exact h4
def RowE(S:Nat→Prop)(w:World)(A:Option Addr)(es:List El):Prop:=
 ∀i (h:i<es.length),∃(g off:Nat),A=some ⟨g,off,none⟩∧g<w.heap.size∧S g∧w.cell? ⟨g,off+i*4,none⟩=some (yI es[i].1)∧w.cell? ⟨g,off+i*4+1,none⟩=some (yI es[i].2.1)∧
  w.cell? ⟨g,off+i*4+2,none⟩=some (.string (B es[i].2.2.1))∧w.cell? ⟨g,off+i*4+3,none⟩=some (.slice es[i].2.2.2.1 es[i].2.2.2.2.1 es[i].2.2.2.2.2)
theorem RowE.mono{S S':Nat→Prop}{w w':World}{A:Option Addr}{es:List El}(h:RowE S w A es)(hs:w.heap.size≤w'.heap.size)(hm:∀g,S g→g<w.heap.size→S' g∧w'.heap[g]?=w.heap[g]?):RowE S' w' A es:=by
 intro i hi
 obtain⟨g,off,e,hl,hS,h0,h1,h2,h3⟩:=h i hi
 obtain⟨hS',hb⟩:=hm g hS hl
 have hk:∀j,w'.cell? ⟨g,j,none⟩=w.cell? ⟨g,j,none⟩:=fun j=>World.cell?_of_block (a:=⟨g,j,none⟩) hb
 exact⟨g,off,e,by omega,hS',by rw[hk];exact h0,by rw[hk];exact h1,by rw[hk];exact h2,by rw[hk];exact h3⟩
def i64(n:Int):Prop:= -9223372036854775808≤n∧n≤9223372036854775807
inductive ExAt (S:Nat→Prop) (w:World):El→Ex→Prop where
 |mk (k n:Int) (nm:List UInt8) (A:Option Addr) (c:Nat) (l:List Ex) (es:List El) (hk:i64 k) (hn:i64 n) (hm:nm.length≤100) (hl:es.length=l.length) (hrow:RowE S w A es)
   (hsub:∀i (h:i<es.length) (h':i<l.length),ExAt S w es[i] l[i]):ExAt S w (k,n,nm,A,l.length,c) (.mk k n nm l)
theorem ExAt.mono{S S':Nat→Prop}{w w':World}(hs:w.heap.size≤w'.heap.size)(hm:∀g,S g→g<w.heap.size→S' g∧w'.heap[g]?=w.heap[g]?){e:El}{x:Ex}(h:ExAt S w e x):ExAt S' w' e x:=by
 induction h with
 |mk k n nm A c l es hk hn hm' hl hrow hsub ih=>exact .mk k n nm A c l es hk hn hm' hl (hrow.mono hs hm) ih
theorem ExAt.rel{S:Nat→Prop}{w w':World}{e:El}{x:Ex}(h:ExAt S w e x)(hr:Rel w w'):ExAt S w' e x:=h.mono hr.size fun g hS hl=>⟨hS,hr.2.block g hl⟩
theorem ExAt.weak{S S':Nat→Prop}{w:World}{e:El}{x:Ex}(h:ExAt S w e x)(hm:∀g,S g→S' g):ExAt S' w e x:=h.mono (Nat.le_refl _) fun g hS _=>⟨hm g hS,rfl⟩
theorem ExAt.open{S:Nat→Prop}{w:World}{k n:Int}{nm:List UInt8}{l:List Ex}{e:El}(h:ExAt S w e (.mk k n nm l)):∃A c es,e=(k,n,nm,A,l.length,c)∧i64 k∧i64 n∧nm.length≤100∧es.length=l.length∧RowE S w A es∧∀i (h:i<es.length) (h':i<l.length),ExAt S w es[i] l[i]:=by
 cases h with
 |mk k n nm A c l es hk hn hm hl hrow hsub=>exact⟨A,c,es,rfl,hk,hn,hm,hl,hrow,hsub⟩
theorem RowE.nil(S:Nat→Prop)(w:World)(A:Option Addr):RowE S w A []:=fun i h=>absurd h (by simp)
theorem ExAt.leaf(S:Nat→Prop)(w:World)(k n:Int)(nm:List UInt8)(A:Option Addr)(c:Nat)(hk:i64 k)(hn:i64 n)(hm:nm.length≤100):ExAt S w (k,n,nm,A,0,c) (.mk k n nm []):=
 .mk k n nm A c [] [] hk hn hm rfl (RowE.nil _ _ _) fun i h=>absurd h (by simp)
theorem ExAt.grown{S S':Nat→Prop}{w w':World}{b:Option Nat}{e:El}{x:Ex}(h:ExAt S w e x)(hg:w.grownBy w' b)(hS:∀k,S k→S' k∧some k≠b):ExAt S' w' e x:=h.mono hg.size fun k hk hl=>⟨(hS k hk).1,hg.block k hl (hS k hk).2⟩
theorem RowE.of_bk{S:Nat→Prop}{w:World}{g:Nat}{es:List El}(h:Bk w g 52 (cellsEs es).toArray)(hS:S g):RowE S w (some ⟨g,0,none⟩) es:=by
 intro i hi
 obtain⟨c0,c1,c2,c3⟩:=cellsEs_at es i hi
 refine⟨g,0,rfl,h.lt,hS, ?_, ?_, ?_, ?_⟩
 ·rw[Nat.zero_add,h.cell,List.getElem?_toArray];exact c0
 ·rw[Nat.zero_add,h.cell,List.getElem?_toArray];exact c1
 ·rw[Nat.zero_add,h.cell,List.getElem?_toArray];exact c2
 ·rw[Nat.zero_add,h.cell,List.getElem?_toArray];exact c3
theorem ExAt.two{S:Nat→Prop}{w:World}{k n:Int}{nm:List UInt8}{g c:Nat}{a b:El}{x y:Ex}(hk:i64 k)(hn:i64 n)(hm:nm.length≤100)(h:Bk w g 52 (cellsEs [a,b]).toArray)(hS:S g)(hx:ExAt S w a x)(hy:ExAt S w b y):
  ExAt S w (k,n,nm,some ⟨g,0,none⟩,2,c) (.mk k n nm [x,y]):=
 .mk k n nm _ c [x,y] [a,b] hk hn hm rfl (RowE.of_bk h hS) fun i h h'=>by
  match i,h,h' with
  |0,_,_=>exact hx
  |1,_,_=>exact hy
def ElsOwn(w:World)(base:Nat)(v:Value)(es:List El):Prop:=w.ownsRow base 52 4 v es.length (cellsEs es)
theorem ElsOwn.toks{S:Nat→Prop}{w:World}{base:Nat}{A:Option Addr}{n c:Nat}{es:List El}(h:ElsOwn w base (.slice A n c) es)(hn:n=es.length)(hS:∀j,(Value.slice A n c).ownBlock=some j→S j):RowE S w A es:=by
 intro i hi
 have h:w.ownsRow base 52 4 (.slice A n c) es.length (cellsEs es):=h
 rcases h.2 with ⟨h0,h1⟩|⟨g,cap,cur,hv,hb,hh,_⟩
 ·omega
 ·have hA:A=some ⟨g,0,none⟩:=by injection hv
  obtain⟨c0,c1,c2,c3⟩:=cellsEs_at es i hi
  have hc:=h.cells (g:=g) (by rw[hA];rfl)
  have q0:=hc _ _ c0
  have q1:=hc _ _ c1
  have q2:=hc _ _ c2
  have q3:=hc _ _ c3
  rw[addr_at] at q0 q1 q2 q3
  refine⟨g,0,hA,Bk.lt (t:=52) hh,hS g (by rw[hA];rfl), ?_, ?_, ?_, ?_⟩
  ·exact q0
  ·rw[Nat.add_assoc];exact q1
  ·rw[Nat.add_assoc];exact q2
  ·rw[Nat.add_assoc];exact q3
theorem ex_info:(Tryz.prog.info? 52).map (fun i=>(i.zero,i.size,i.bytes))=some (some (.agg #[yI 0,yI 0,.string ⟨#[]⟩,.slice none 0 0]),4,56):=by kernel_rfl
theorem cellsE_one(e:El):∀u∈cellsE e,u.oneCell'=true:=by
 intro u hu
 simp only[cellsE,List.mem_cons,List.not_mem_nil,or_false] at hu
 rcases hu with rfl|rfl|rfl|rfl<;>rfl
def SrcAt(w:World)(g:Nat)(L:List Int):Prop:=
 ∃(A:Option Addr)(c:Nat),Bk w g 68 #[.slice A L.length c]∧L.length≤c∧c≤maxLen∧(∀z∈L,i64 z)∧∀i (h:i<L.length),∃a:Addr,A=some a∧a.block<g∧w.cell? (a.add i)=some (yI L[i])
theorem SrcAt.grown{w w':World}{g:Nat}{L:List Int}(h:SrcAt w g L){b:Option Nat}(hg:w.grownBy w' b)(hb:∀k,b=some k→g<k):SrcAt w' g L:=by
 obtain⟨A,c,hbk,h1,h2,h3,h4⟩:=h
 have hgl:=hbk.lt
 refine⟨A,c,hbk.grown hg (fun e=>by have:=hb g e.symm;omega),h1,h2,h3,fun i hi=> ?_⟩
 obtain⟨a,e,hl,hc⟩:=h4 i hi
 refine⟨a,e,hl, ?_⟩
 have hk:w'.heap[(a.add i).block]?=w.heap[(a.add i).block]?:=by rw[block_add];exact hg.block _ (by omega) (fun e=>by have:=hb _ e.symm;omega)
 exact(World.cell?_of_block hk).trans hc
theorem grown_rel{w w':World}(r:Option Nat)(h:Rel w w'):w.grownBy w' r:=⟨h.2.os,h.2.tape,h.2.output,h.2.size,fun k hk _=>h.2.block k hk⟩
theorem SrcAt.rel{w w':World}{g:Nat}{L:List Int}(h:SrcAt w g L)(hr:Rel w w'):SrcAt w' g L:=h.grown (grown_rel none hr) (fun k e=>by cases e)
theorem grown_trans{w w' w'':World}{r:Option Nat}(h:w.grownBy w' r)(h':w'.grownBy w'' r):w.grownBy w'' r:=
 ⟨h'.os.trans h.os,h'.tape.trans h.tape,h'.output.trans h.output,Nat.le_trans h.size h'.size,fun k hk hn=>(h'.block k (Nat.lt_of_lt_of_le hk h.size) hn).trans (h.block k hk hn)⟩
theorem grown_of{w w' w'':World}{r:Option Nat}(h:w.grownBy w' r){b:Option Nat}(h':w'.grownBy w'' b)(hb:∀k,b=some k→w.heap.size≤k):w.grownBy w'' r:=
 ⟨h'.os.trans h.os,h'.tape.trans h.tape,h'.output.trans h.output,Nat.le_trans h.size h'.size,fun k hk hn=>(h'.block k (Nat.lt_of_lt_of_le hk h.size) (fun e=>by have:=hb k e.symm;omega)).trans (h.block k hk hn)⟩
theorem set_grown(w:World)(b i:Nat)(v:Value):w.grownBy (w.setCell ⟨b,i,none⟩ v) (some b):=
 ⟨rfl,rfl,rfl,by rw[World.size_setCell];exact Nat.le_refl _,fun k _ hk=>Below.heap_setCell w ⟨b,i,none⟩ v k (fun e=>hk (by rw[e]))⟩
theorem put4_grown(w:World)(b:Nat)(x y z u:Value):w.grownBy ((((w.setCell ⟨b,0,none⟩ x).setCell ⟨b,1,none⟩ y).setCell ⟨b,2,none⟩ z).setCell ⟨b,3,none⟩ u) (some b):=
 grown_trans (grown_trans (grown_trans (set_grown w b 0 x) (set_grown _ b 1 y)) (set_grown _ b 2 z)) (set_grown _ b 3 u)
theorem SrcAt.lt{w:World}{g:Nat}{L:List Int}(h:SrcAt w g L):g<w.heap.size:=by
 obtain⟨_,_,hb,_⟩:=h;exact hb.lt
theorem pk_as(c n y:Int)(h:Hid (pk c n=y))(hc: -9223372036854775808≤c)(hc':c≤9223372036854775807)(hn:0<n)(hn':n≤9223372036854775807)(w:World):
  Calls Tryz.prog 72 #[yI c,yI n] w fun e w'=>e= .returned (yI y)∧w=w':=by
 rw[←h.out]
 by_cases h:c<0
 all_goals
  go_enter Tryz.func72,Tryz.ntmps72
  go_wp2
  all_goals
   go_ret
   exact⟨ret_int (by unfold pk;split<;>first|rfl|omega),rfl⟩
theorem addr_zero(a:Addr):a.add 0=a:=by
 obtain⟨b,o,p⟩:=a
 cases p<;>simp[Addr.add]
theorem add_next(a:Addr)(n:Nat):a.add (n+1)=⟨(a.add n).block,(a.add n).off+1,none⟩:=by
 unfold Addr.add
 by_cases h:n=0
 ·subst h;simp
 ·simp[h];omega
theorem src_next{w:World}{g:Nat}{z:Int}{t:List Int}{a:Addr}{c:Nat}(hb:Bk w g 68 #[.slice (some a) (z::t).length c])(h3:∀z'∈z::t,i64 z')
  (h4:∀i (h:i<(z::t).length),∃a':Addr,some a=some a'∧a'.block<g∧w.cell? (a'.add i)=some (yI (z::t)[i])) (a':Addr) (c':Nat) (hA:t=[]∨a'=a.add 1) (hc:t.length≤c') (hc':c'≤maxLen):
  SrcAt (w.setCell ⟨g,0,none⟩ (.slice (some a') t.length c')) g t∧w.grownBy (w.setCell ⟨g,0,none⟩ (.slice (some a') t.length c')) (some g)∧(w.setCell ⟨g,0,none⟩ (.slice (some a') t.length c')).heap.size=w.heap.size:=by
 refine⟨⟨some a',c',hb.set_ 0 _,hc,hc',fun z' hz=>h3 z' (List.mem_cons_of_mem _ hz),fun i hi=> ?_⟩,⟨rfl,rfl,rfl,by rw[World.size_setCell];exact Nat.le_refl _,fun k _ hk=>Below.heap_setCell w ⟨g,0,none⟩ _ k (fun e=>hk (by rw[e]))⟩,World.size_setCell ..⟩
 have hi':i+1<(z::t).length:=by simpa using hi
 obtain⟨b,e,hl,hcell⟩:=h4 (i+1) hi'
 cases e
 rcases hA with rfl|rfl
 ·simp at hi
 ·refine⟨_,rfl,by rw[block_add];exact hl, ?_⟩
  rw[Addr.add_add,Nat.add_comm 1 i]
  have hk:(w.setCell ⟨g,0,none⟩ (.slice (some (a.add 1)) t.length c')).heap[(a.add (i+1)).block]?=w.heap[(a.add (i+1)).block]?:=Below.heap_setCell w ⟨g,0,none⟩ _ _ (by rw[block_add];simp only;omega)
  rw[World.cell?_of_block hk]
  exact hcell
theorem next_any(g:Nat)(L:List Int)(n:Int)(hn:0<n)(hn':n≤9223372036854775807)(w:World)(h:SrcAt w g L):
  Calls Tryz.prog 52 #[.pointer (some ⟨g,0,none⟩),yI n] w fun e w'=>e= .returned (yI (nx n L).1)∧SrcAt w' g (nx n L).2∧w.grownBy w' (some g)∧w'.heap.size=w.heap.size:=by
 obtain⟨A,c,hb,h1,h2,h3,h4⟩:=h
 have c0:=hb.cell 0
 have f0:=hb.frozen 0
 have HB:=yH hb
 have H4:=yH h4
 have HG:Hid (w.grownBy w (some g)):=yH ⟨rfl,rfl,rfl,Nat.le_refl _,fun _ _ _=>rfl⟩
 simp only[List.getElem?_toArray,List.getElem?_cons_zero] at c0
 clear hb h4
 cases L with
 |nil=>
  have H3:=yH h3
  clear h3
  go_enter Tryz.func52,Tryz.ntmps52
  go_wp2_with (fail)
  go_ret
  exact⟨rfl,⟨A,c,HB.out,h1,h2,H3.out,H4.out⟩,HG.out,rfl⟩
 |cons z t=>
  obtain⟨a,rfl,hl,hc⟩:=H4.out 0 (by simp)
  have hne:a.block≠g:=by omega
  obtain⟨y,hy⟩:∃y,pk z n=y:=⟨_,rfl⟩
  have HY:=yH hy
  have hz:=h3 z (List.mem_cons_self ..)
  have H3:=yH h3
  rw[addr_zero] at hc
  have HA1:=yH (show(⟨a.block,a.off+1,none⟩:Addr)=a.add 1 by rw[add_next a 0,addr_zero])
  have z0:=hz.1
  have z1:=hz.2
  simp only[List.length_cons,List.getElem_cons_zero] at h1 hc c0
  clear hy hz h3
  go_enter Tryz.func52,Tryz.ntmps52
  go_wp2_with (go_at_call 72;(with_reducible refine(pk_as z n y HY z0 z1 hn hn' _).mono ?_);rintro e w' ⟨rfl,rfl⟩)
  all_goals
   go_ret
   refine⟨ret_int HY.out.symm, ?_⟩
   first
    |exact src_next HB.out H3.out H4.out _ _ (.inr HA1.out) (by omega) (by omega)
    |exact src_next HB.out H3.out H4.out _ _ (.inl (List.length_eq_zero_iff.1 (by omega))) (by omega) (by omega)
theorem pick_as(c n y:Int)(h:Hid (pk c n=y))(hc: -9223372036854775808≤c)(hc':c≤9223372036854775807)(hn:0<n)(hn':n≤9223372036854775807)(w:World):
  Calls Tryz.prog 43 #[yI c,yI n] w fun e w'=>e= .returned (yI y)∧w=w':=by
 rw[←h.out];exact pick_any c n hc hc' hn hn' w
theorem decimal_as(n:Int)(S:ByteArray)(h:Hid (B (decDigits n.toNat)=S))(h0:0≤n)(h1:n≤9223372036854775807)(w0 w:World)(hr:Rel w0 w):
  Calls Tryz.prog 44 #[yI n] w fun e w'=>e= .returned (.string S)∧Rel w0 w':=by
 rw[←h.out];exact decimal_any n h0 h1 w0 w hr
def strCells(ls:List (List UInt8)):Array Value:=(ls.map fun l=>Value.string (B l)).toArray
theorem str_cell{w:World}{g:Nat}{ls:List (List UInt8)}(h:Bk w g 9 (strCells ls))(j:Nat)(hj:j<ls.length):w.cell? ⟨g,j,none⟩=some (.string (B (ls.getD j []))):=by
 rw[h.cell]
 unfold strCells
 rw[List.getElem?_toArray,List.getElem?_map,List.getElem?_eq_getElem hj,List.getD_eq_getElem?_getD,List.getElem?_eq_getElem hj]
 rfl
theorem nam_cell(w:World)(j:Nat)(hj:j<6):(w.alloc (.cells #[.string ⟨#[97]⟩,.string ⟨#[98,111,98]⟩,.string ⟨#[108,111,119,101,115]⟩,.string ⟨#[97,99,109,101,57]⟩,.string ⟨#[120,49]⟩,.string ⟨#[101,108,115,101,101]⟩] 9)).cell? ⟨w.heap.size,j,none⟩=some (.string (B (theNames.getD j []))):=
 str_cell (ls:=theNames) (Bk.new w 9 (strCells theNames)) j hj
theorem nam_after{w w':World}(hr:Rel (w.alloc (.cells #[.string ⟨#[97]⟩,.string ⟨#[98,111,98]⟩,.string ⟨#[108,111,119,101,115]⟩,.string ⟨#[97,99,109,101,57]⟩,.string ⟨#[120,49]⟩,.string ⟨#[101,108,115,101,101]⟩] 9)).drew w')(j:Nat)(hj:j<6)(X:ByteArray)(hX:B (theNames.getD j [])=X):w'.cell? ⟨w.heap.size,j,none⟩=some (.string X):=by
 rw[←hX]
 exact str_cell (ls:=theNames) (Bk.rel (w:=(w.alloc (.cells (strCells theNames) 9)).drew) (Bk.new w 9 (strCells theNames)) hr) j hj
theorem seller_any(n:Int)(h0: -9223372036854775808≤n)(h1:n≤9223372036854775807)(w0 w:World)(hr:Rel w0 w):
  Calls Tryz.prog 26 #[yI n] w fun e w'=>e= .returned (.string (B (sellerL (pk n 60))))∧Rel w0 w':=by
 have hb:=pk_bd n 60 (by omega)
 obtain⟨u,hu⟩:∃u,pk n 60=u:=⟨_,rfl⟩
 rw[hu] at hb⊢
 have HU:=yH hu
 obtain⟨u0,u1⟩:=hb
 have t6:=tdt u 6 (by omega)
 obtain⟨a,ha⟩:∃a:Nat,u.tmod 6=(a:Int):=⟨(u.tmod 6).toNat,by omega⟩
 obtain⟨b,hq'⟩:∃b:Nat,u.tdiv 6=(b:Int):=⟨(u.tdiv 6).toNat,by omega⟩
 have hq:IntKind.i64.wrap (u.tdiv 6)=(b:Int):=by rw[hq'];exact IntWalk.i64_in _ (by omega)
 have a6:a<6:=by omega
 have a6':(a:Int)<6:=by omega
 have b9:(b:Int)≤10:=by omega
 obtain⟨X,hX⟩:∃X,B (theNames.getD a [])=X:=⟨_,rfl⟩
 have hc:=fun w=>nam_cell w a a6
 obtain⟨D,hD⟩:∃D,B (decDigits ((b:Int)).toNat)=D:=⟨_,rfl⟩
 have HD:=yH hD
 have z1:X.size≤5:=by rw[←hX,B_size];exact names_len ⟨a,a6⟩
 have z2:D.size≤19:=by rw[←hD];exact dd_size _ (by omega)
 have z3: ¬9223372036854775807<X.size+D.size:=by omega
 have HF:=yH (show X++D=B (sellerL u) by
  unfold sellerL
  rw[←hX,←hD,B_append,show u%6=(a:Int) by omega,show u/6=(b:Int) by omega];rfl)
 have HX:=yH hX
 rw[hX] at hc
 have HR:=yH hr
 clear hu hX hD t6 hq'
 go_enter Tryz.func26,Tryz.ntmps26
 go_wp2_with (go_at_call 43;(with_reducible refine(pick_as n 60 u HU h0 h1 (by omega) (by omega) _).mono ?_);rintro e w' ⟨rfl,rfl⟩)
 have HS:=yH hr.self
 go_region_law (rw[if_pos (by rfl)];go_simp;go_at_call 44;(with_reducible refine(decimal_as (b:Int) D HD (by omega) (by omega) _ _ (by first|exact HS.out.drew.self|exact(HS.out.drew.alloc _).self|exact((HS.out.alloc _).drew).self)).mono ?_);rintro e w' ⟨rfl,hr'⟩;try(have cx:=nam_after hr' a a6 X HX.out))
 all_goals
  go_wp2_with (fail)
  go_ret
  refine⟨ret_str HF.out, ?_⟩
  first
   |exact(HR.out.alloc _).drew.trans hr'
   |exact(HR.out.drew.trans hr').alloc _
theorem kinds(k:Int):(k=1∨k=2∨k=3∨k=4∨k=5∨k=6∨k=7∨k=8∨k=9∨k=10∨k=11∨k=12)∨
  ((k==1)=false∧(k==2)=false∧(k==3)=false∧(k==4)=false∧(k==5)=false∧(k==6)=false∧(k==7)=false∧(k==8)=false∧(k==9)=false∧(k==10)=false∧(k==11)=false∧(k==12)=false∧argsN k= -1∧mostN k=0∧isCond k=false):=by
 by_cases h:k=1∨k=2∨k=3∨k=4∨k=5∨k=6∨k=7∨k=8∨k=9∨k=10∨k=11∨k=12
 ·exact .inl h
 ·refine .inr ⟨?_, ?_, ?_, ?_, ?_, ?_, ?_, ?_, ?_, ?_, ?_, ?_, ?_, ?_, ?_⟩
  iterate 12 (·simp;omega)
  ·unfold argsN;rw[if_neg (by omega),if_neg (by omega),if_neg (by omega),if_neg (by omega)]
  ·unfold mostN;rw[if_neg (by omega),if_neg (by omega),if_neg (by omega)]
  ·unfold isCond;simp;omega
theorem rargs_any(k:Int)(w:World):Calls Tryz.prog 53 #[yI k] w fun e w'=>e= .returned (yI (argsN k))∧w=w':=by
 rcases kinds k with h|⟨k1,k2,k3,k4,k5,k6,k7,k8,k9,k10,k11,k12,ha,_⟩
 ·rcases h with rfl|rfl|rfl|rfl|rfl|rfl|rfl|rfl|rfl|rfl|rfl|rfl
  all_goals
   go_enter Tryz.func53,Tryz.ntmps53
   go_wp2_with (fail)
   go_ret
   exact⟨rfl,rfl⟩
 ·have HA:=yH ha
  clear ha
  go_enter Tryz.func53,Tryz.ntmps53
  go_wp2_with (fail)
  go_ret
  exact⟨ret_int HA.out.symm,rfl⟩
theorem args_as(k m:Int)(h:Hid (argsN k=m))(w:World):Calls Tryz.prog 53 #[yI k] w fun e w'=>e= .returned (yI m)∧w=w':=by rw[←h.out];exact rargs_any k w
theorem next_as(g:Nat)(L:List Int)(n v:Int)(L':List Int)(hv:Hid ((nx n L)=(v,L')))(hn:0<n)(hn':n≤9223372036854775807)(w:World)(h:SrcAt w g L):
  Calls Tryz.prog 52 #[.pointer (some ⟨g,0,none⟩),yI n] w fun e w'=>e= .returned (yI v)∧SrcAt w' g L'∧w.grownBy w' (some g)∧w'.heap.size=w.heap.size:=by
 have:=next_any g L n hn hn' w h
 rw[hv.out] at this
 exact this
def ExprAt(d:Nat):Prop:=∀(c:Bool)(L:List Int)(g:Nat)(w0 w:World),Rel w0 w→w0.heap.size≤g→SrcAt w g L→Calls Tryz.prog 33 #[.pointer (some ⟨g,0,none⟩),yI ((d:Int)+1),.bool c] w fun e w'=>
 ∃v:El,e= .returned (EV v)∧ExAt (fun k=>w.heap.size≤k) w' v (gen (d+1) c L).1∧SrcAt w' g (gen (d+1) c L).2∧w.grownBy w' (some g)
theorem expr_as{d:Nat}(E:ExprAt d)(c:Bool)(L:List Int)(x:Ex)(L':List Int)(hx:Hid (gen (d+1) c L=(x,L')))(g:Nat)(w0 w:World)(hr:Rel w0 w)(hg:w0.heap.size≤g)(hs:SrcAt w g L):
  Calls Tryz.prog 33 #[.pointer (some ⟨g,0,none⟩),yI ((d:Int)+1),.bool c] w fun e w'=>∃v:El,e= .returned (EV v)∧ExAt (fun k=>w.heap.size≤k) w' v x∧SrcAt w' g L'∧w.grownBy w' (some g):=by
 have:=E c L g w0 w hr hg hs
 rw[hx.out] at this
 exact this
theorem expr_cond(d:Nat)(hd:d≤10)(H:∀d',d=d'+1→ExprAt d')(L:List Int)(g:Nat)(w0 w:World)(hr:Rel w0 w)(hg0:w0.heap.size≤g)(hs:SrcAt w g L):
  Calls Tryz.prog 33 #[.pointer (some ⟨g,0,none⟩),yI ((d:Int)+1),.bool true] w fun e w'=>
   ∃v:El,e= .returned (EV v)∧ExAt (fun k=>w.heap.size≤k) w' v (gen (d+1) true L).1∧SrcAt w' g (gen (d+1) true L).2∧w.grownBy w' (some g):=by
 have hgl:=hs.lt
 have hA:=hr.self.alloc (.cells #[yI 0,yI 0,.string ⟨#[]⟩,.slice none 0 0] 52)
 have hS:=yH (hs.rel hA)
 have HB:=yH (Bk.new w 52 #[yI 0,yI 0,.string ⟨#[]⟩,.slice none 0 0])
 have HG:=yH (grown_rel (some g) hA)
 have HR:=yH (hr.alloc (.cells #[yI 0,yI 0,.string ⟨#[]⟩,.slice none 0 0] 52))
 clear hA
 cases d with
 |zero=>
  obtain⟨⟨v,L'⟩,hv⟩:∃p,nx 7 L=p:=⟨_,rfl⟩
  have HV:=yH hv
  have hb:=nx_bd 7 (by omega) L
  rw[hv] at hb
  have HF:=yH (show gen 1 true L=(.mk 11 v [] [],L') by simp[gen,hv])
  clear hv hs
  go_enter Tryz.func33,Tryz.ntmps33
  go_wp2_with (go_at_call 52;(with_reducible refine(next_as g L 7 v L' HV (by decide) (by decide) _ hS.out).mono ?_);rintro e w1 ⟨rfl,s1,g1,z1⟩;obtain⟨⟨c0,c1,c2,c3⟩,f0,f1,f2,f3⟩:=(HB.out.grown g1 (fun e=>by injection e;omega)).four)
  obtain⟨⟨r0,r1,r2,r3⟩,_⟩:=((HB.out.grown g1 (fun e=>by injection e;omega)).put4 (yI 11) (yI v) (.string ⟨#[]⟩) (.slice none 0 0)).four
  refine bodyPost_ret (v:=EV (11,v,[],none,0,0)) (by simp[results,Tryz.results33,go_sem,r0,r1,r2,r3];rfl) rfl ⟨_,rfl, ?_, ?_, ?_⟩
  ·rw[HF.out];exact ExAt.leaf _ _ 11 v [] none 0 ⟨by decide,by decide⟩ ⟨by omega,by omega⟩ (by simp)
  ·rw[HF.out];exact s1.grown (put4_grown w1 w.heap.size _ _ _ _) (fun k e=>by cases e;exact hgl)
  ·exact grown_of (grown_trans HG.out g1) (put4_grown w1 w.heap.size _ _ _ _) (fun k e=>by cases e;exact Nat.le_refl _)
 |succ d=>
  have E:=H d rfl
  obtain⟨⟨v2,L2⟩,hv2⟩:∃p,nx 2 L=p:=⟨_,rfl⟩
  have HV2:=yH hv2
  have hb2:=nx_bd 2 (by omega) L
  rw[hv2] at hb2
  have hdd: ¬((d:Int)+1+1<2):=by omega
  by_cases h0:v2=0
  ·obtain⟨⟨v,L'⟩,hv⟩:∃p,nx 7 L2=p:=⟨_,rfl⟩
   have HV:=yH hv
   have hb:=nx_bd 7 (by omega) L2
   rw[hv] at hb
   have HF:=yH (show gen (d+2) true L=(.mk 11 v [] [],L') by simp[gen,hv2,hv,h0])
   have h0':(v2==0)=true:=by simpa using h0
   clear hv hv2 hs h0
   go_enter Tryz.func33,Tryz.ntmps33
   go_wp2_with (first
    |(go_at_call 52;(with_reducible refine(next_as g L 2 v2 L2 HV2 (by decide) (by decide) _ hS.out).mono ?_);rintro e w1 ⟨rfl,s1,g1,z1⟩)
    |(go_at_call 52;(with_reducible refine(next_as g L2 7 v L' HV (by decide) (by decide) _ s1).mono ?_);rintro e w2 ⟨rfl,s2,g2,z2⟩;obtain⟨⟨c0,c1,c2,c3⟩,f0,f1,f2,f3⟩:=(HB.out.grown (grown_trans g1 g2) (fun e=>by injection e;omega)).four))
   obtain⟨⟨r0,r1,r2,r3⟩,_⟩:=((HB.out.grown (grown_trans g1 g2) (fun e=>by injection e;omega)).put4 (yI 11) (yI v) (.string ⟨#[]⟩) (.slice none 0 0)).four
   refine bodyPost_ret (v:=EV (11,v,[],none,0,0)) (by simp[results,Tryz.results33,go_sem,r0,r1,r2,r3];rfl) rfl ⟨_,rfl, ?_, ?_, ?_⟩
   ·rw[HF.out];exact ExAt.leaf _ _ 11 v [] none 0 ⟨by decide,by decide⟩ ⟨by omega,by omega⟩ (by simp)
   ·rw[HF.out];exact s2.grown (put4_grown w2 w.heap.size _ _ _ _) (fun k e=>by cases e;exact hgl)
   ·exact grown_of (grown_trans (grown_trans HG.out g1) g2) (put4_grown w2 w.heap.size _ _ _ _) (fun k e=>by cases e;exact Nat.le_refl _)
  ·obtain⟨⟨x,L3⟩,hx⟩:∃p,gen (d+1) false L2=p:=⟨_,rfl⟩
   obtain⟨⟨y,L4⟩,hy⟩:∃p,gen (d+1) false L3=p:=⟨_,rfl⟩
   have HF:=yH (show gen (d+2) true L=(.mk 12 0 [] [x,y],L4) by rw[gen,if_neg (by omega),hv2,if_neg h0,hx,hy])
   have h0':(v2==0)=false:=by simpa using h0
   have HX:=yH hx
   have HY:=yH hy
   have hw1:IntKind.i64.wrap ((d:Int)+1+1-1)=(d:Int)+1:=by rw[IntKind.wrap_i64];omega
   clear hv2 hs h0 hx hy
   go_enter Tryz.func33,Tryz.ntmps33
   go_wp2_with (first
    |(go_at_call 52;(with_reducible refine(next_as g L 2 v2 L2 HV2 (by decide) (by decide) _ hS.out).mono ?_);rintro e w1 ⟨rfl,s1,g1,z1⟩)
    |(go_at_call 33;(with_reducible refine(expr_as E false L2 x L3 HX g _ _ (HR.out.grown g1 (fun k e=>by cases e;exact hg0)) hg0 s1).mono ?_);rintro e w2 ⟨vx,rfl,ex,s2,g2⟩)
    |(go_at_call 33;(with_reducible refine(expr_as E false L3 y L4 HY g _ _ ((HR.out.grown g1 (fun k e=>by cases e;exact hg0)).grown g2 (fun k e=>by cases e;exact hg0)) hg0 s2).mono ?_);rintro e w3 ⟨vy,rfl,ey,s3,g3⟩;obtain⟨⟨c0,c1,c2,c3⟩,f0,f1,f2,f3⟩:=((HB.out.grown (grown_trans (grown_trans g1 g2) g3) (fun e=>by injection e;omega)).alloc (.cells #[yI vx.1,yI vx.2.1,.string (B vx.2.2.1),.slice vx.2.2.2.1 vx.2.2.2.2.1 vx.2.2.2.2.2,yI vy.1,yI vy.2.1,.string (B vy.2.2.1),.slice vy.2.2.2.1 vy.2.2.2.2.1 vy.2.2.2.2.2] 52)).four))
   have R2:=(HR.out.grown g1 (fun k e=>by cases e;exact hg0)).grown g2 (fun k e=>by cases e;exact hg0)
   have R3:=R2.grown g3 (fun k e=>by cases e;exact hg0)
   have ga:=grown_rel none (R3.self.alloc (.cells #[yI vx.1,yI vx.2.1,.string (B vx.2.2.1),.slice vx.2.2.2.1 vx.2.2.2.2.1 vx.2.2.2.2.2,yI vy.1,yI vy.2.1,.string (B vy.2.2.1),.slice vy.2.2.2.1 vy.2.2.2.2.1 vy.2.2.2.2.2] 52))
   have z0:(w.alloc (.cells #[yI 0,yI 0,.string ⟨#[]⟩,.slice none 0 0] 52)).heap.size=w.heap.size+1:=World.size_alloc ..
   have zz1:=g1.size
   have zz2:=g2.size
   have zz3:=g3.size
   obtain⟨gp,hgp⟩:∃gp,gp=put4_grown (w3.alloc (.cells #[yI vx.1,yI vx.2.1,.string (B vx.2.2.1),.slice vx.2.2.2.1 vx.2.2.2.2.1 vx.2.2.2.2.2,yI vy.1,yI vy.2.1,.string (B vy.2.2.1),.slice vy.2.2.2.1 vy.2.2.2.2.1 vy.2.2.2.2.2] 52)) w.heap.size (yI 12) (yI 0) (.string ⟨#[]⟩) (.slice (some ⟨w3.heap.size,0,none⟩) 2 2):=⟨_,rfl⟩
   clear hgp
   obtain⟨⟨r0,r1,r2,r3⟩,_⟩:=(((HB.out.grown (grown_trans (grown_trans g1 g2) g3) (fun e=>by injection e;omega)).alloc (.cells #[yI vx.1,yI vx.2.1,.string (B vx.2.2.1),.slice vx.2.2.2.1 vx.2.2.2.2.1 vx.2.2.2.2.2,yI vy.1,yI vy.2.1,.string (B vy.2.2.1),.slice vy.2.2.2.1 vy.2.2.2.2.1 vy.2.2.2.2.2] 52)).put4 (yI 12) (yI 0) (.string ⟨#[]⟩) (.slice (some ⟨w3.heap.size,0,none⟩) 2 2)).four
   refine bodyPost_ret (v:=EV (12,0,[],some ⟨w3.heap.size,0,none⟩,2,2)) (by simp[results,Tryz.results33,go_sem,r0,r1,r2,r3];rfl) rfl ⟨_,rfl, ?_, ?_, ?_⟩
   ·rw[HF.out]
    refine ExAt.two ⟨by decide,by decide⟩ ⟨by decide,by decide⟩ (Nat.zero_le _) ((Bk.new w3 52 (cellsEs [vx,vy]).toArray).grown gp (fun e=>by injection e;omega)) (show w.heap.size≤w3.heap.size by omega) ?_ ?_
    ·exact(((ex.grown (S':=fun k=>w1.heap.size≤k) g3 (fun k hk=>⟨hk,fun e=>by injection e;omega⟩)).grown (S':=fun k=>w1.heap.size≤k) ga (fun k hk=>⟨hk,fun e=>by cases e⟩)).grown gp (fun k hk=>⟨by omega,fun e=>by injection e;omega⟩))
    ·exact((ey.grown (S':=fun k=>w2.heap.size≤k) ga (fun k hk=>⟨hk,fun e=>by cases e⟩)).grown gp (fun k hk=>⟨by omega,fun e=>by injection e;omega⟩))
   ·rw[HF.out];exact(s3.grown ga (fun k e=>by cases e)).grown gp (fun k e=>by cases e;exact hgl)
   ·exact grown_of (grown_of (grown_trans (grown_trans (grown_trans HG.out g1) g2) g3) ga (fun k e=>by cases e)) gp (fun k e=>by cases e;exact Nat.le_refl _)
end Go.Proofs.YtfekhbeaphpelaaGreatDoor

namespace Go.Proofs.YtfekhbeaphpelaaGreatDoor
open Go
section
variable {P:Program} {ops:Array Oper} {Q:Exit→Act→World→Prop} {md:Region.Mode} {S:World→Prop}
theorem held_take{i:Nat}{oi:Oper}{v:Value}(d:Option Tmp){fuel:Nat}{listed:Array Bool}{a:Act}{w:World}(hi:ops[i]?=some oi)(hd:oi.dst=d)
  (hs:Region.noSelect ops=true) (hf:Region.free md ops listed i=true) (hr:(Region.ready md ops listed).contains i=true)
  (hQ:∀c a w,Q (.panic c) (a.put d v) w→Q (.panic c) a w) (hy:YieldsIf P ops S oi v a) (hS:S w)
  (h:wpAnyH P md ops Q S fuel (listed.setIfInBounds i true) (a.put d v) w):wpAnyH P md ops Q S (fuel+1) listed a w:=by
 subst hd
 exact wpAnyH_take hi hs hf hr hQ hy hS h
theorem held_one{j:Nat}{o:Oper}{fuel:Nat}{listed:Array Bool}{a:Act}{w:World}(hr:Region.ready md ops listed=[j])(ho:ops[j]?=some o)
  (h:∀K':Act→World→Prop,Shut (∀a w,S w→(S w→wpAnyH P md ops Q S fuel (listed.setIfInBounds j true) a w)→K' a w)→if Region.wanted o (yielded ops a.tmps)=true then Oper.wp P o a w K' Q else K' (a.put o.dst undef) w):wpAnyH P md ops Q S (fuel+1) listed a w:=
 wpAnyH_ready hr (by simp) (AllReadyH.cons ho h AllReadyH.nil)
theorem held_two{j k:Nat}{o o':Oper}{fuel:Nat}{listed:Array Bool}{a:Act}{w:World}(hr:Region.ready md ops listed=[j,k])(ho:ops[j]?=some o)(ho':ops[k]?=some o')
  (h:∀K':Act→World→Prop,Shut (∀a w,S w→(S w→wpAnyH P md ops Q S fuel (listed.setIfInBounds j true) a w)→K' a w)→if Region.wanted o (yielded ops a.tmps)=true then Oper.wp P o a w K' Q else K' (a.put o.dst undef) w)
  (h':∀K':Act→World→Prop,Shut (∀a w,S w→(S w→wpAnyH P md ops Q S fuel (listed.setIfInBounds k true) a w)→K' a w)→if Region.wanted o' (yielded ops a.tmps)=true then Oper.wp P o' a w K' Q else K' (a.put o'.dst undef) w):wpAnyH P md ops Q S (fuel+1) listed a w:=
 wpAnyH_ready hr (by simp) (AllReadyH.cons ho h (AllReadyH.cons ho' h' AllReadyH.nil))
end
end Go.Proofs.YtfekhbeaphpelaaGreatDoor

namespace Go.Proofs.YtfekhbeaphpelaaGreatDoor
open Go.RowKit Go.Lib
def TokFine(all:List Tok):Prop:=(∀t∈all,i64 t.1∧i64 t.2.2.1∧t.2.1.length≤100∧(t.1=1→t.2.1≠[]))∧all.length≤100000∧∃(us:List Tok)(p:Int),all=us++[(5,[],0,p)]
def StR(V:World)(A:Option Addr)(c:Nat)(all:List Tok)(w:World)(g:Nat)(s:PS):Prop:=
 ∃j:Nat,Rel V w∧V.heap.size≤g∧ToksAt V A all∧TokFine all∧Bk w g 76 #[.slice A all.length c,yI j,yI s.2]∧s.1=all.drop j∧j<all.length
theorem StR.lt{V:World}{A:Option Addr}{c:Nat}{all:List Tok}{w:World}{g:Nat}{s:PS}(h:StR V A c all w g s):g<w.heap.size:=by
 obtain⟨j,h1,h2,h3,h4,h5,h6,h7⟩:=h;exact h5.lt
theorem StR.rel{V:World}{A:Option Addr}{c:Nat}{all:List Tok}{w w':World}{g:Nat}{s:PS}(h:StR V A c all w g s)(hr:Rel w w'):StR V A c all w' g s:=by
 obtain⟨j,h1,h2,h3,h4,h5,h6,h7⟩:=h
 exact⟨j,h1.trans hr,h2,h3,h4,h5.rel hr,h6,h7⟩
theorem StR.grown{V:World}{A:Option Addr}{c:Nat}{all:List Tok}{w w':World}{g:Nat}{s:PS}(h:StR V A c all w g s){b:Option Nat}(hg:w.grownBy w' b)(hb:some g≠b)(hV:∀k,b=some k→V.heap.size≤k):StR V A c all w' g s:=by
 obtain⟨j,h1,h2,h3,h4,h5,h6,h7⟩:=h
 exact⟨j,h1.grown hg hV,h2,h3,h4,h5.grown hg hb,h6,h7⟩
theorem Bk.three{w:World}{g:Nat}{t:TypeId}{x y z:Value}(h:Bk w g t #[x,y,z]):
  (w.cell? ⟨g,0,none⟩=some x∧w.cell? ⟨g,1,none⟩=some y∧w.cell? ⟨g,2,none⟩=some z)∧(w.frozen? ⟨g,0,none⟩=false∧w.frozen? ⟨g,1,none⟩=false∧w.frozen? ⟨g,2,none⟩=false):=
 ⟨⟨h.cell 0,h.cell 1,h.cell 2⟩,⟨h.frozen 0,h.frozen 1,h.frozen 2⟩⟩
theorem hd_drop{all:List Tok}{j:Nat}(h:j<all.length):hdT (all.drop j)=all[j]:=by
 unfold hdT
 rw[List.drop_eq_getElem_cons h]
 rfl
theorem last_five{all:List Tok}(h:TokFine all){j:Nat}(hj:j<all.length)(h5:all[j].1≠5):j+1<all.length:=by
 obtain⟨_,_,us,p,rfl⟩:=h
 simp only[List.length_append,List.length_cons,List.length_nil] at hj⊢
 rcases Nat.lt_or_ge j us.length with h|h
 ·omega
 ·obtain rfl:j=us.length:=by omega
  rw[List.getElem_append_right (Nat.le_refl _)] at h5
  exact absurd (by simp) h5
theorem rwrong_any(V:World)(A:Option Addr)(c:Nat)(all:List Tok)(g:Nat)(s:PS)(cd:Int)(w:World)(h:StR V A c all w g s):
  Calls Tryz.prog 60 #[.pointer (some ⟨g,0,none⟩),yI cd] w fun e w'=>e= .returned (.tuple #[])∧StR V A c all w' g (wrongR cd s)∧w.grownBy w' (some g)∧w'.heap.size=w.heap.size:=by
 obtain⟨j,h1,h2,h3,h4,h5,h6,h7⟩:=h
 obtain⟨⟨c0,c1,c2⟩,f0,f1,f2⟩:=h5.three
 have HG:Hid (w.grownBy w (some g)):=yH ⟨rfl,rfl,rfl,Nat.le_refl _,fun _ _ _=>rfl⟩
 obtain⟨ts,e⟩:=s
 by_cases he:e=0
 ·have he':(e==0)=true:=by simpa using he
  have HP:=yH (show ∀W,w.setCell ⟨g,2,none⟩ (yI cd)=W→StR V A c all W g (wrongR cd (ts,e))∧w.grownBy W (some g)∧W.heap.size=w.heap.size from fun W hW=>by
   subst hW
   refine⟨⟨j,h1.setCell h2 _,h2,h3,h4, ?_, ?_,h7⟩,set_grown w g 2 _,World.size_setCell ..⟩
   ·unfold wrongR;rw[if_pos he];exact h5.set_ 2 _
   ·unfold wrongR;rw[if_pos he];exact h6)
  clear h1 h3 h4 h5 h6 h7 he
  go_enter Tryz.func60,Tryz.ntmps60
  go_wp2_with (fail)
  go_end0
  exact⟨rfl,HP.out _ rfl⟩
 ·have he':(e==0)=false:=by simpa using he
  have HP:=yH (show StR V A c all w g (wrongR cd (ts,e)) from by unfold wrongR;rw[if_neg he];exact⟨j,h1,h2,h3,h4,h5,h6,h7⟩)
  clear h1 h3 h4 h5 h6 h7 he
  go_enter Tryz.func60,Tryz.ntmps60
  go_wp2_with (fail)
  go_end0
  exact⟨rfl,HP.out,HG.out,rfl⟩
theorem wrongR_80(ts:List Tok)(e:Int):∃e3,wrongR 80 (ts,e)=(ts,e3)∧(e3==0)=false:=by
 unfold wrongR
 by_cases h:e=0
 ·exact⟨80,by rw[if_pos h],rfl⟩
 ·exact⟨e,by rw[if_neg h],by simpa using h⟩
theorem takeR_wrong{k e e3:Int}{x:List UInt8}{ts:List Tok}(hm: ¬((hdT ts).1=k∧(x=[]∨(hdT ts).2.1=x)))(h:wrongR 80 (ts,e)=(ts,e3)):takeR k x (ts,e)=(zT,(ts,e3)):=by
 unfold takeR
 unfold wrongR at h
 by_cases he:e=0
 ·rw[if_pos he] at h⊢;rw[if_neg hm];cases h;rfl
 ·rw[if_neg he] at h⊢;cases h;rfl
theorem toList_nil{x:List UInt8}{X:ByteArray}(h:X=B x):(X.toList==[])=true↔x=[]:=by subst h;rw[B_toList];simp
theorem toList_eq{x y:List UInt8}{X:ByteArray}(h:X=B x):((B y).toList==X.toList)=true↔y=x:=by subst h;rw[B_toList,B_toList];simp
theorem rtake_any(V:World)(A:Option Addr)(c:Nat)(all:List Tok)(g:Nat)(s:PS)(k:Int)(x:List UInt8)(X:ByteArray)(hX:Hid (X=B x))(w:World)(h:StR V A c all w g s):
  Calls Tryz.prog 39 #[.pointer (some ⟨g,0,none⟩),yI k,.string X] w fun e w'=>e= .returned (TK (takeR k x s).1)∧StR V A c all w' g (takeR k x s).2∧w.grownBy w' (some g):=by
 have HS:=yH h
 obtain⟨j,h1,h2,h3,h4,h5,h6,h7⟩:=h
 obtain⟨ts,e⟩:=s
 have hgl:=h5.lt
 have hA:=h1.self.alloc (.cells #[yI 0,.string ⟨#[]⟩,yI 0,yI 0] 78)
 have HN1:=yH (Bk.new w 78 #[yI 0,.string ⟨#[]⟩,yI 0,yI 0])
 have HZ1:=yH (World.size_alloc w (.cells #[yI 0,.string ⟨#[]⟩,yI 0,yI 0] 78))
 have HW1:=yH hA.self
 have HA:=yH hA
 have HB:=yH (h5.rel hA)
 obtain⟨gT,off,rfl,hb,_⟩:=h3 j h7
 have HD:=yH (hd_drop h7)
 obtain⟨t,ht⟩:∃t,all[j]=t:=⟨_,rfl⟩
 have HTt:=yH ht
 have HT:=yH (show ∀w',Rel (w.alloc (.cells #[yI 0,.string ⟨#[]⟩,yI 0,yI 0] 78)) w'→w'.cell? ⟨gT,off+j*4,none⟩=some (yI t.1)∧w'.cell? ⟨gT,off+j*4+1,none⟩=some (.string (B t.2.1))∧w'.cell? ⟨gT,off+j*4+2,none⟩=some (yI t.2.2.1)∧w'.cell? ⟨gT,off+j*4+3,none⟩=some (yI t.2.2.2) from fun w' hr=>by
  obtain⟨g',off',e',_,a0,a1,a2,a3⟩:=(h3.rel ((h1.trans hA).trans hr)) j h7
  cases e'
  rw[ht] at a0 a1 a2 a3
  exact⟨a0,a1,a2,a3⟩)
 have H6:=yH h6
 obtain⟨W1,hW1⟩:∃W,w.alloc (.cells #[yI 0,.string ⟨#[]⟩,yI 0,yI 0] 78)=W:=⟨_,rfl⟩
 rw[hW1] at HW1 HA HB HT HN1 HZ1
 have HWe:=yH hW1
 clear h1 h3 h4 h5 h6 hA ht hW1
 go_enter Tryz.func39,Tryz.ntmps39
 go_wp2_with (fail)
 rw[HWe.out]
 refine wp_region_held_drew (S:=(fun w'=>Rel W1 w')) (by kernel_rfl) HW1.out.drew (fun hH=> ?_)
 refine yL [0,1,2,3,4,5,6,7,8,9] (by kernel_rfl) hH (fun _ _ _ _ _=>id) ?_
 iterate 10
  refine yS rfl rfl (by rfl) ?_ ?_ ?_
  rotate_left
  ·intro w' (h:Rel W1 w');obtain⟨⟨x0,x1,x2⟩,_⟩:=(HB.out.rel h).three;obtain⟨y0,y1,y2,y3⟩:=HT.out w' h;go_simp;try with_reducible rfl
  try simp only[Act.put,yA,yB,yC]
 refine yZ ?_
 refine held_one (j:=10) (by kernel_rfl) rfl (fun K hK=> ?_)
 try simp only[yD,yE,yF]
 rw[if_pos (by rfl)]
 go_simp
 refine hK.out _ _ (hH.alloc _) (fun hH=> ?_)
 clear hK K
 try simp only[Act.put,yA,yB,yC]
 refine held_one (j:=11) (by kernel_rfl) rfl (fun K hK=> ?_)
 try simp only[yD,yE,yF]
 rw[if_pos (by rfl)]
 go_simp
 refine hK.out _ _ (HW1.out.alloc _).drew (fun hH=> ?_)
 clear hK K
 try simp only[Act.put,yA,yB,yC]
 refine wpAnyH_done (by kernel_rfl) ?_ _
 have HW2:=yH (HW1.out.alloc (.cells #[yI t.1,.string (B t.2.1),yI t.2.2.1,yI t.2.2.2] 78)).drew
 have HN2:=yH (Bk.new W1 78 #[yI t.1,.string (B t.2.1),yI t.2.2.1,yI t.2.2.2])
 obtain⟨W2,hW2⟩:∃W,(W1.alloc (.cells #[yI t.1,.string (B t.2.1),yI t.2.2.1,yI t.2.2.2] 78)).drew=W:=⟨_,rfl⟩
 rw[hW2] at HW2
 obtain⟨⟨b0,b1,b2,b3⟩,_⟩:=(show Bk W2 W1.heap.size 78 #[yI t.1,.string (B t.2.1),yI t.2.2.1,yI t.2.2.2] from by rw[←hW2];exact HN2.out).four
 obtain⟨⟨c0,c1,c2⟩,f0,f1,f2⟩:=(HB.out.rel HW2.out).three
 rw[hW2]
 clear hW2
 obtain⟨⟨r0,r1,r2,r3⟩,q0,q1,q2,q3⟩:=(HN1.out.rel HW2.out).four
 have HNW:=yH (HN1.out.rel HW2.out)
 have HS2:=yH (HS.out.rel (HA.out.trans HW2.out))
 have HG2:=yH (grown_rel (some g) (HA.out.trans HW2.out))
 have hVw:V.heap.size≤w.heap.size:=by obtain⟨_,a,_⟩:=HS.out;exact a.size
 have hhd:hdT ts=t:=by have:=H6.out;rw[this,HD.out,HTt.out]
 have HHD:=yH hhd
 have hz1:=HZ1.out
 have hne1: ¬g=w.heap.size:=by omega
 have hne2: ¬w.heap.size=g:=by omega
 have hne3: ¬g=W1.heap.size:=by omega
 have hne4: ¬W1.heap.size=g:=by omega
 clear hz1
 clear hhd
 cases hkb:(t.1==k)
 ·obtain⟨e3,hw3,he3⟩:=wrongR_80 ts e
  have HW3:=yH hw3
  have HF:=yH (takeR_wrong (x:=x) (show ¬((hdT ts).1=k∧(x=[]∨(hdT ts).2.1=x)) from fun hh=>by rw[HHD.out] at hh;simp[hh.1] at hkb) hw3)
  clear hw3
  go_wp2_with (go_at_call 60;(with_reducible refine(rwrong_any V (some ⟨gT,off,none⟩) c all g (ts,e) 80 _ HS2.out).mono ?_);rintro e w3 ⟨rfl,s3,g3,z3⟩;rw[HW3.out] at s3;have HS3:=yH s3;obtain⟨_,_,_,_,_,hb3,_,_⟩:=s3;obtain⟨⟨d0,d1,d2⟩,_⟩:=hb3.three;clear hb3;obtain⟨⟨p0,p1,p2,p3⟩,v0,v1,v2,v3⟩:=(HNW.out.grown g3 (fun e=>by injection e;omega)).four;have HG3:=yH g3)
  obtain⟨⟨y0,y1,y2,y3⟩,_⟩:=((HNW.out.grown HG3.out (fun e=>by injection e;omega)).put4 (yI 0) (.string ⟨#[]⟩) (yI 0) (yI 0)).four
  have gp:=put4_grown w3 w.heap.size (yI 0) (.string ⟨#[]⟩) (yI 0) (yI 0)
  refine bodyPost_ret (v:=TK zT) (by simp[results,Tryz.results39,go_sem,y0,y1,y2,y3,zT];rfl) rfl ⟨?_, ?_, ?_⟩
  ·rw[HF.out]
  ·rw[HF.out];exact HS3.out.grown gp (fun e=>by injection e;omega) (fun k e=>by cases e;exact hVw)
  ·exact grown_of (grown_trans HG2.out HG3.out) gp (fun k e=>by cases e;exact Nat.le_refl _)
 ·have hk:t.1=k:=by simpa using hkb
  have HK:=yH hk
  clear hk
  have ways:(X.toList==[])=true∨((X.toList==[])=false∧((B t.2.1).toList==X.toList)=true)∨((X.toList==[])=false∧((B t.2.1).toList==X.toList)=false):=by
   cases(X.toList==[])<;>cases((B t.2.1).toList==X.toList)<;>simp
  rcases ways with hx0|⟨hx0,hxt⟩|⟨hx0,hxt⟩
  ·have HM:=yH (show(hdT ts).1=k∧(x=[]∨(hdT ts).2.1=x) from⟨by rw[HHD.out];exact HK.out,.inl ((toList_nil hX.out).1 hx0)⟩)
   by_cases he:e=0
   ·subst he
    have HT0:=yH (show takeR k x (ts,0)=((k,t.2.1,t.2.2.1,t.2.2.2),(if k=5 then ts else ts.tail,0)) by unfold takeR;rw[if_pos rfl,if_pos HM.out,HHD.out,←HK.out])
    by_cases h5:k=5
    ·have h5':(k==5)=true:=by simpa using h5
     have HF:=yH (show takeR k x (ts,0)=((k,t.2.1,t.2.2.1,t.2.2.2),(ts,0)) by rw[HT0.out,if_pos h5])
     clear h5
     go_wp2_with (fail)
     obtain⟨⟨y0,y1,y2,y3⟩,_⟩:=(HNW.out.put4 (yI k) (.string (B t.2.1)) (yI t.2.2.1) (yI t.2.2.2)).four
     have gp:=put4_grown W2 w.heap.size (yI k) (.string (B t.2.1)) (yI t.2.2.1) (yI t.2.2.2)
     refine bodyPost_ret (v:=TK (k,t.2.1,t.2.2.1,t.2.2.2)) (by simp[results,Tryz.results39,go_sem,y0,y1,y2,y3]) rfl ⟨?_, ?_, ?_⟩
     ·rw[HF.out]
     ·rw[HF.out];exact HS2.out.grown gp (fun e=>by injection e;omega) (fun k e=>by cases e;exact hVw)
     ·exact grown_of HG2.out gp (fun k e=>by cases e;exact Nat.le_refl _)
    ·have h5':(k==5)=false:=by simpa using h5
     have HF:=yH (show takeR k x (ts,0)=((k,t.2.1,t.2.2.1,t.2.2.2),(ts.tail,0)) by rw[HT0.out,if_neg h5])
     have hj1:j+1<all.length:=by
      obtain⟨_,_,_,_,hf,_⟩:=HS.out
      exact last_five hf h7 (by rw[HTt.out,HK.out];exact h5)
     have hjs:all.length≤100000:=by obtain⟨_,_,_,_,hf,_⟩:=HS.out;exact hf.2.1
     have hwj:IntKind.i64.wrap ((j:Int)+1)=(j:Int)+1:=by rw[IntKind.wrap_i64];omega
     clear h5
     go_wp2_with (fail)
     have HSt:=yH (show ∀W,W2.setCell ⟨g,1,none⟩ (yI ((j:Int)+1))=W→StR V (some ⟨gT,off,none⟩) c all W g (ts.tail,0)∧W2.grownBy W (some g)∧Bk W w.heap.size 78 #[yI 0,.string ⟨#[]⟩,yI 0,yI 0] from fun W hW=>by
      subst hW
      obtain⟨j',s1,s2,s3,s4,s5,s6,s7⟩:=HS2.out
      refine⟨⟨j+1,s1.setCell s2 _,s2,s3,s4,(HB.out.rel HW2.out).set_ 1 _, ?_,hj1⟩,set_grown W2 g 1 _,HNW.out.far (by simp only;omega) _⟩
      show ts.tail=_
      rw[H6.out,List.tail_drop])
     obtain⟨W3,hW3⟩:∃W,W2.setCell ⟨g,1,none⟩ (yI ((j:Int)+1))=W:=⟨_,rfl⟩
     obtain⟨z1,z2,z3⟩:=HSt.out W3 hW3
     rw[hW3]
     obtain⟨⟨y0,y1,y2,y3⟩,_⟩:=(z3.put4 (yI k) (.string (B t.2.1)) (yI t.2.2.1) (yI t.2.2.2)).four
     have gp:=put4_grown W3 w.heap.size (yI k) (.string (B t.2.1)) (yI t.2.2.1) (yI t.2.2.2)
     refine bodyPost_ret (v:=TK (k,t.2.1,t.2.2.1,t.2.2.2)) (by simp[results,Tryz.results39,go_sem,y0,y1,y2,y3]) rfl ⟨?_, ?_, ?_⟩
     ·rw[HF.out]
     ·rw[HF.out];exact z1.grown gp (fun e=>by injection e;omega) (fun k e=>by cases e;exact hVw)
     ·exact grown_of (grown_trans HG2.out z2) gp (fun k e=>by cases e;exact Nat.le_refl _)
   ·have he':(e==0)=false:=by simpa using he
    have HF:=yH (takeR_bad (k:=k) (x:=x) (s:=(ts,e)) he)
    clear he
    go_wp2_with (fail)
    obtain⟨⟨y0,y1,y2,y3⟩,_⟩:=(HNW.out.put4 (yI 0) (.string ⟨#[]⟩) (yI 0) (yI 0)).four
    have gp:=put4_grown W2 w.heap.size (yI 0) (.string ⟨#[]⟩) (yI 0) (yI 0)
    refine bodyPost_ret (v:=TK zT) (by simp[results,Tryz.results39,go_sem,y0,y1,y2,y3,zT];rfl) rfl ⟨?_, ?_, ?_⟩
    ·rw[HF.out]
    ·rw[HF.out];exact HS2.out.grown gp (fun e=>by injection e;omega) (fun k e=>by cases e;exact hVw)
    ·exact grown_of HG2.out gp (fun k e=>by cases e;exact Nat.le_refl _)
  ·have HM:=yH (show(hdT ts).1=k∧(x=[]∨(hdT ts).2.1=x) from⟨by rw[HHD.out];exact HK.out,.inr (by rw[HHD.out];exact(toList_eq hX.out).1 hxt)⟩)
   by_cases he:e=0
   ·subst he
    have HT0:=yH (show takeR k x (ts,0)=((k,t.2.1,t.2.2.1,t.2.2.2),(if k=5 then ts else ts.tail,0)) by unfold takeR;rw[if_pos rfl,if_pos HM.out,HHD.out,←HK.out])
    by_cases h5:k=5
    ·have h5':(k==5)=true:=by simpa using h5
     have HF:=yH (show takeR k x (ts,0)=((k,t.2.1,t.2.2.1,t.2.2.2),(ts,0)) by rw[HT0.out,if_pos h5])
     clear h5
     go_wp2_with (fail)
     obtain⟨⟨y0,y1,y2,y3⟩,_⟩:=(HNW.out.put4 (yI k) (.string (B t.2.1)) (yI t.2.2.1) (yI t.2.2.2)).four
     have gp:=put4_grown W2 w.heap.size (yI k) (.string (B t.2.1)) (yI t.2.2.1) (yI t.2.2.2)
     refine bodyPost_ret (v:=TK (k,t.2.1,t.2.2.1,t.2.2.2)) (by simp[results,Tryz.results39,go_sem,y0,y1,y2,y3]) rfl ⟨?_, ?_, ?_⟩
     ·rw[HF.out]
     ·rw[HF.out];exact HS2.out.grown gp (fun e=>by injection e;omega) (fun k e=>by cases e;exact hVw)
     ·exact grown_of HG2.out gp (fun k e=>by cases e;exact Nat.le_refl _)
    ·have h5':(k==5)=false:=by simpa using h5
     have HF:=yH (show takeR k x (ts,0)=((k,t.2.1,t.2.2.1,t.2.2.2),(ts.tail,0)) by rw[HT0.out,if_neg h5])
     have hj1:j+1<all.length:=by
      obtain⟨_,_,_,_,hf,_⟩:=HS.out
      exact last_five hf h7 (by rw[HTt.out,HK.out];exact h5)
     have hjs:all.length≤100000:=by obtain⟨_,_,_,_,hf,_⟩:=HS.out;exact hf.2.1
     have hwj:IntKind.i64.wrap ((j:Int)+1)=(j:Int)+1:=by rw[IntKind.wrap_i64];omega
     clear h5
     go_wp2_with (fail)
     have HSt:=yH (show ∀W,W2.setCell ⟨g,1,none⟩ (yI ((j:Int)+1))=W→StR V (some ⟨gT,off,none⟩) c all W g (ts.tail,0)∧W2.grownBy W (some g)∧Bk W w.heap.size 78 #[yI 0,.string ⟨#[]⟩,yI 0,yI 0] from fun W hW=>by
      subst hW
      obtain⟨j',s1,s2,s3,s4,s5,s6,s7⟩:=HS2.out
      refine⟨⟨j+1,s1.setCell s2 _,s2,s3,s4,(HB.out.rel HW2.out).set_ 1 _, ?_,hj1⟩,set_grown W2 g 1 _,HNW.out.far (by simp only;omega) _⟩
      show ts.tail=_
      rw[H6.out,List.tail_drop])
     obtain⟨W3,hW3⟩:∃W,W2.setCell ⟨g,1,none⟩ (yI ((j:Int)+1))=W:=⟨_,rfl⟩
     obtain⟨z1,z2,z3⟩:=HSt.out W3 hW3
     rw[hW3]
     obtain⟨⟨y0,y1,y2,y3⟩,_⟩:=(z3.put4 (yI k) (.string (B t.2.1)) (yI t.2.2.1) (yI t.2.2.2)).four
     have gp:=put4_grown W3 w.heap.size (yI k) (.string (B t.2.1)) (yI t.2.2.1) (yI t.2.2.2)
     refine bodyPost_ret (v:=TK (k,t.2.1,t.2.2.1,t.2.2.2)) (by simp[results,Tryz.results39,go_sem,y0,y1,y2,y3]) rfl ⟨?_, ?_, ?_⟩
     ·rw[HF.out]
     ·rw[HF.out];exact z1.grown gp (fun e=>by injection e;omega) (fun k e=>by cases e;exact hVw)
     ·exact grown_of (grown_trans HG2.out z2) gp (fun k e=>by cases e;exact Nat.le_refl _)
   ·have he':(e==0)=false:=by simpa using he
    have HF:=yH (takeR_bad (k:=k) (x:=x) (s:=(ts,e)) he)
    clear he
    go_wp2_with (fail)
    obtain⟨⟨y0,y1,y2,y3⟩,_⟩:=(HNW.out.put4 (yI 0) (.string ⟨#[]⟩) (yI 0) (yI 0)).four
    have gp:=put4_grown W2 w.heap.size (yI 0) (.string ⟨#[]⟩) (yI 0) (yI 0)
    refine bodyPost_ret (v:=TK zT) (by simp[results,Tryz.results39,go_sem,y0,y1,y2,y3,zT];rfl) rfl ⟨?_, ?_, ?_⟩
    ·rw[HF.out]
    ·rw[HF.out];exact HS2.out.grown gp (fun e=>by injection e;omega) (fun k e=>by cases e;exact hVw)
    ·exact grown_of HG2.out gp (fun k e=>by cases e;exact Nat.le_refl _)
  ·obtain⟨e3,hw3,he3⟩:=wrongR_80 ts e
   have HW3:=yH hw3
   have HF:=yH (takeR_wrong (x:=x) (show ¬((hdT ts).1=k∧(x=[]∨(hdT ts).2.1=x)) from fun hh=>by
    rcases hh.2 with h|h
    ·rw[(toList_nil hX.out).2 h] at hx0;cases hx0
    ·rw[HHD.out] at h;rw[(toList_eq hX.out).2 h] at hxt;cases hxt) hw3)
   clear hw3
   go_wp2_with (go_at_call 60;(with_reducible refine(rwrong_any V (some ⟨gT,off,none⟩) c all g (ts,e) 80 _ HS2.out).mono ?_);rintro e w3 ⟨rfl,s3,g3,z3⟩;rw[HW3.out] at s3;have HS3:=yH s3;obtain⟨_,_,_,_,_,hb3,_,_⟩:=s3;obtain⟨⟨d0,d1,d2⟩,_⟩:=hb3.three;clear hb3;obtain⟨⟨p0,p1,p2,p3⟩,v0,v1,v2,v3⟩:=(HNW.out.grown g3 (fun e=>by injection e;omega)).four;have HG3:=yH g3)
   obtain⟨⟨y0,y1,y2,y3⟩,_⟩:=((HNW.out.grown HG3.out (fun e=>by injection e;omega)).put4 (yI 0) (.string ⟨#[]⟩) (yI 0) (yI 0)).four
   have gp:=put4_grown w3 w.heap.size (yI 0) (.string ⟨#[]⟩) (yI 0) (yI 0)
   refine bodyPost_ret (v:=TK zT) (by simp[results,Tryz.results39,go_sem,y0,y1,y2,y3,zT];rfl) rfl ⟨?_, ?_, ?_⟩
   ·rw[HF.out]
   ·rw[HF.out];exact HS3.out.grown gp (fun e=>by injection e;omega) (fun k e=>by cases e;exact hVw)
   ·exact grown_of (grown_trans HG2.out HG3.out) gp (fun k e=>by cases e;exact Nat.le_refl _)
end Go.Proofs.YtfekhbeaphpelaaGreatDoor
