/- The landed parser. -/

import Derived.Test.YtjhjdiaomnpkmaaGreatDoorZ05
set_option maxRecDepth 100000
set_option maxHeartbeats 8000000
set_option linter.unusedVariables false
set_option linter.unusedSimpArgs false
namespace Go.Proofs.YtjhjdiaomnpkmaaGreatDoor
open Go.RowKit Go.Lib
def ExPost(V:World)(g a:Nat)(w:World)(r:Told Ex)(e:Ending)(w':World):Prop:=match r with
 | .ok (x,ts)=>∃v:El,e= .returned (EV v)∧ExAt (fun k=>w.heap.size≤k) w' v x∧StP V w' g ts a∧w.grownBy w' (some g)
 | .error E=>e=FLT E.1 E.2∧w.grownBy w' (some g)
theorem ExPost.yes{V:World}{g a:Nat}{w:World}{r:Told Ex}{x:Ex}{ts:List Tok}(h:r= .ok (x,ts)){e:Ending}{w':World}(hv:∃v:El,e= .returned (EV v)∧ExAt (fun k=>w.heap.size≤k) w' v x∧StP V w' g ts a∧w.grownBy w' (some g)):ExPost V g a w r e w':=by subst h;exact hv
theorem ExPost.no{V:World}{g a:Nat}{w:World}{r:Told Ex}{E:Int×Int}(h:r= .error E){e:Ending}{w':World}(he:e=FLT E.1 E.2)(hg:w.grownBy w' (some g)):ExPost V g a w r e w':=by subst h;exact⟨he,hg⟩
def ExprOk(d:Nat):Prop:=∀(V:World)(g a:Nat)(ts:List Tok)(w:World),a+d=32→StP V w g ts a→
 (Calls Tryz.prog 76 #[.pointer (some ⟨g,0,none⟩)] w (ExPost V g a w (exprT d false ts)))∧(Calls Tryz.prog 111 #[.pointer (some ⟨g,0,none⟩)] w (ExPost V g a w (exprT d true ts)))
theorem ex_yes{d:Nat}(E:ExprOk d){V:World}{g a:Nat}{ts:List Tok}{w:World}(had:a+d=32)(h:StP V w g ts a){y:Ex}{r:List Tok}(hr:exprT d false ts= .ok (y,r)):
  Calls Tryz.prog 76 #[.pointer (some ⟨g,0,none⟩)] w fun e w'=>∃v:El,e= .returned (EV v)∧ExAt (fun k=>w.heap.size≤k) w' v y∧StP V w' g r a∧w.grownBy w' (some g):=by
 have:=(E V g a ts w had h).1
 rw[hr] at this
 exact this
theorem ex_no{d:Nat}(E:ExprOk d){V:World}{g a:Nat}{ts:List Tok}{w:World}(had:a+d=32)(h:StP V w g ts a){e0:Int×Int}(hr:exprT d false ts= .error e0):
  Calls Tryz.prog 76 #[.pointer (some ⟨g,0,none⟩)] w fun e w'=>e=FLT e0.1 e0.2∧w.grownBy w' (some g):=by
 have:=(E V g a ts w had h).1
 rw[hr] at this
 exact this
theorem cond_yes{d:Nat}(E:ExprOk d){V:World}{g a:Nat}{ts:List Tok}{w:World}(had:a+d=32)(h:StP V w g ts a){y:Ex}{r:List Tok}(hr:exprT d true ts= .ok (y,r)):
  Calls Tryz.prog 111 #[.pointer (some ⟨g,0,none⟩)] w fun e w'=>∃v:El,e= .returned (EV v)∧ExAt (fun k=>w.heap.size≤k) w' v y∧StP V w' g r a∧w.grownBy w' (some g):=by
 have:=(E V g a ts w had h).2
 rw[hr] at this
 exact this
theorem cond_no{d:Nat}(E:ExprOk d){V:World}{g a:Nat}{ts:List Tok}{w:World}(had:a+d=32)(h:StP V w g ts a){e0:Int×Int}(hr:exprT d true ts= .error e0):
  Calls Tryz.prog 111 #[.pointer (some ⟨g,0,none⟩)] w fun e w'=>e=FLT e0.1 e0.2∧w.grownBy w' (some g):=by
 have:=(E V g a ts w had h).2
 rw[hr] at this
 exact this
def Mid(V U w:World)(g gx a:Nat)(x:Ex)(ts:List Tok)(A:Option Addr)(n c:Nat)(es:List El)(v:El)(y:Ex):Prop:=
 (Bk w gx 54 #[.int .i64 x.k,.int .i64 x.n,.string (B x.nm),.slice A n c]∧w.ownsRow (gx+1) 54 4 (.slice A n c) n (cellsEs es)∧es.length=x.l.length∧
  (∀i (h:i<es.length) (h':i<x.l.length),ExAt (fun q=>gx<q∧some q≠(Value.slice A n c).ownBlock) w es[i] x.l[i])∧i64 x.k∧i64 x.n∧x.nm.length≤100∧x.l.length≤3)∧
 StP V w g ts a∧g<U.heap.size∧U.heap.size≤gx∧U.grownBy w (some g)∧ExAt (fun q=>gx<q∧some q≠(Value.slice A n c).ownBlock) w v y
theorem Mid.own{V U w:World}{g gx a:Nat}{x y:Ex}{ts:List Tok}{A:Option Addr}{n c:Nat}{es:List El}{v:El}(h:Mid V U w g gx a x ts A n c es v y):w.ownsRow (gx+1) 54 4 (.slice A n c) n (cellsEs es):=h.1.2.1
theorem Mid.base{V U w:World}{g gx a:Nat}{x y:Ex}{ts:List Tok}{A:Option Addr}{n c:Nat}{es:List El}{v:El}(h:Mid V U w g gx a x ts A n c es v y):gx+1≤w.heap.size:=h.1.1.lt
theorem Mid.box{V U w w3:World}{g gx a:Nat}{x y:Ex}{ts:List Tok}{A:Option Addr}{n c:Nat}{es:List El}{v:El}(h:Mid V U w g gx a x ts A n c es v y)(hg:w.grownBy w3 (Value.slice A n c).ownBlock):Bk w3 gx 54 #[.int .i64 x.k,.int .i64 x.n,.string (B x.nm),.slice A n c]:=
 h.1.1.grown hg (fun e=>by have:=(h.own.lt _ e.symm).1;omega)
theorem Mid.apart{V U w w3:World}{g gx a:Nat}{x y:Ex}{ts:List Tok}{A:Option Addr}{n c:Nat}{es:List El}{v:El}(h:Mid V U w g gx a x ts A n c es v y){g' m cap:Nat}{xs:List Value}(ho:w3.ownsRow (gx+1) 54 4 (.slice (some ⟨g',0,none⟩) m cap) m xs): ¬g'=gx:=by
 intro e
 have:=(ho.lt g' rfl).1
 omega
abbrev App(w w3:World)(gx:Nat)(A:Option Addr)(n c g' cap:Nat)(es:List El):Prop:=
 w3.ownsRow (gx+1) 54 4 (.slice (some ⟨g',0,none⟩) (n+1) cap) (n+1) (cellsEs es++cellsE (0,0,[],none,0,0))∧w.grownBy w3 (Value.slice A n c).ownBlock∧((Value.slice A n c).ownBlock=some g'∨g'=w.heap.size)
def Pushed(w3:World)(gx g' n cap:Nat)(x:Ex)(es:List El)(v:El)(W:World):Prop:=
 Bk W gx 54 #[.int .i64 x.k,.int .i64 x.n,.string (B x.nm),.slice (some ⟨g',0,none⟩) (n+1) cap]∧W.ownsRow (gx+1) 54 4 (.slice (some ⟨g',0,none⟩) (n+1) cap) (n+1) (cellsEs (es++[v]))∧
 (∀q,q≠gx→q≠g'→W.heap[q]?=w3.heap[q]?)∧W.heap.size=w3.heap.size∧W.os=w3.os∧W.tape=w3.tape∧W.output=w3.output
theorem cellsEs_len(es:List El):(cellsEs es).length=es.length*4:=by
 induction es with
 |nil=>rfl
 |cons e t ih=>have:cellsEs (e::t)=cellsE e++cellsEs t:=rfl;rw[this,List.length_append,ih,List.length_cons];show 4+t.length*4=_;omega
theorem own_last{w:World}{base g' n cap:Nat}{es:List El}{z:El}(h:w.ownsRow base 54 4 (.slice (some ⟨g',0,none⟩) (n+1) cap) (n+1) (cellsEs es++cellsE z))(hn:es.length=n):
  (w.cell? ⟨g',n*4,none⟩=some (.int .i64 z.1)∧w.cell? ⟨g',n*4+1,none⟩=some (.int .i64 z.2.1)∧w.cell? ⟨g',n*4+2,none⟩=some (.string (B z.2.2.1))∧w.cell? ⟨g',n*4+3,none⟩=some (.slice z.2.2.2.1 z.2.2.2.2.1 z.2.2.2.2.2))∧
  (w.frozen? ⟨g',n*4,none⟩=false∧w.frozen? ⟨g',n*4+1,none⟩=false∧w.frozen? ⟨g',n*4+2,none⟩=false∧w.frozen? ⟨g',n*4+3,none⟩=false):=by
 subst hn
 have hc:=h.cells (g:=g') rfl
 have hl:=cellsEs_len es
 have at_:∀j,(cellsEs es++cellsE z)[es.length*4+j]?=(cellsE z)[j]?:=fun j=>by rw[List.getElem?_append_right (by omega),show es.length*4+j-(cellsEs es).length=j by omega]
 have q0:=hc _ _ (at_ 0)
 have q1:=hc _ _ (at_ 1)
 have q2:=hc _ _ (at_ 2)
 have q3:=hc _ _ (at_ 3)
 rw[addr_at] at q0 q1 q2 q3
 simp only[Nat.zero_add,Nat.add_zero] at q0 q1 q2 q3
 rcases h.2 with ⟨h0,h1⟩|⟨g,cap',cur,hv,hb,hh,_⟩
 ·omega
 ·have hg:g=g':=by injection hv with a b c;injection a with a;injection a with a;exact a.symm
  subst hg
  have hb:Bk w g 54 cur:=hh
  exact⟨⟨q0,q1,q2,q3⟩,hb.frozen _,hb.frozen _,hb.frozen _,hb.frozen _⟩
theorem set4_last(es:List El)(z v:El)(n:Nat)(hn:es.length=n):
  ((((cellsEs es++cellsE z).set (n*4) (.int .i64 v.1)).set (n*4+1) (.int .i64 v.2.1)).set (n*4+2) (.string (B v.2.2.1))).set (n*4+3) (.slice v.2.2.2.1 v.2.2.2.2.1 v.2.2.2.2.2)=cellsEs (es++[v]):=by
 subst hn
 have hl:=cellsEs_len es
 rw[cellsEs_snoc]
 have s:∀(m:List Value)(j:Nat)(u:Value),(cellsEs es++m).set (es.length*4+j) u=cellsEs es++m.set j u:=fun m j u=>by
  rw[List.set_append_right _ _ (by omega),show es.length*4+j-(cellsEs es).length=j by omega]
 have s0:∀(m:List Value)(u:Value),(cellsEs es++m).set (es.length*4) u=cellsEs es++m.set 0 u:=fun m u=>s m 0 u
 rw[s0,s,s,s]
 rfl
abbrev put4(w:World)(g o:Nat)(v:El):World:=(((w.setCell ⟨g,o,none⟩ (.int .i64 v.1)).setCell ⟨g,o+1,none⟩ (.int .i64 v.2.1)).setCell ⟨g,o+2,none⟩ (.string (B v.2.2.1))).setCell ⟨g,o+3,none⟩ (.slice v.2.2.2.1 v.2.2.2.2.1 v.2.2.2.2.2)
theorem put4_block(w:World)(g o:Nat)(v:El)(q:Nat)(h:q≠g):(put4 w g o v).heap[q]?=w.heap[q]?:=by
 unfold put4
 rw[Below.heap_setCell _ _ _ _ (by simpa using h),Below.heap_setCell _ _ _ _ (by simpa using h),Below.heap_setCell _ _ _ _ (by simpa using h),Below.heap_setCell _ _ _ _ (by simpa using h)]
theorem put4_gr(w:World)(g o:Nat)(v:El):w.grownBy (put4 w g o v) (some g):=grown_trans (grown_trans (grown_trans (set_grown w g o _) (set_grown _ g (o+1) _)) (set_grown _ g (o+2) _)) (set_grown _ g (o+3) _)
theorem own_put4{w:World}{base g' n cap:Nat}{es:List El}{z v:El}(h:w.ownsRow base 54 4 (.slice (some ⟨g',0,none⟩) (n+1) cap) (n+1) (cellsEs es++cellsE z))(hn:es.length=n):
  (put4 w g' (n*4) v).ownsRow base 54 4 (.slice (some ⟨g',0,none⟩) (n+1) cap) (n+1) (cellsEs (es++[v])):=by
 rw[←set4_last es z v n hn]
 exact((((h.stored (n*4) _).1.stored (n*4+1) _).1.stored (n*4+2) _).1.stored (n*4+3) _).1
theorem own_new{w:World}{gx:Nat}{x:Ex}{A:Option Addr}{c:Nat}{es:List El}(h:XP gx w x A c es){q:Nat}(hq:w.heap.size≤q):gx<q∧some q≠(Value.slice A es.length c).ownBlock:=
 ⟨by have:=h.lt;omega,fun e=>by have:=(h.2.1.lt q e.symm).2;omega⟩
theorem mid_of{V U w wb:World}{g gx a:Nat}{x y:Ex}{ts r:List Tok}{A:Option Addr}{c:Nat}{es:List El}{v:El}(h:InP V U w g gx a x ts)(hX:XP gx w x A c es)(hg:w.grownBy wb (some g))(hs:StP V wb g r a)(ex:ExAt (fun q=>w.heap.size≤q) wb v y):Mid V U wb g gx a x r A es.length c es v y:=by
 obtain⟨h1,h2,h3,h4,_⟩:=h
 exact⟨hX.grown hg (by omega),hs,h2,h3,grown_trans h4 hg,ex.weak fun q hq=>own_new hX hq⟩
theorem mid_one{V U w w' w2:World}{g gx a:Nat}{x y:Ex}{ts r:List Tok}{A:Option Addr}{c:Nat}{es:List El}{v:El}(h:InP V U w g gx a x ts)(hX:XP gx w x A c es)(hd:Rel w w')(g2:w'.grownBy w2 (some g))(s2:StP V w2 g r a)(ex:ExAt (fun q=>w'.heap.size≤q) w2 v y)(o:Obj):Mid V U (w2.alloc o) g gx a x r A es.length c es v y:=by
 have R:=s2.V.1.self.alloc o
 exact mid_of h hX (grown_trans (grown_trans (grown_rel (some g) hd) g2) (grown_rel (some g) R)) (s2.rel R) ((ex.rel R).weak fun q hq=>Nat.le_trans hd.size hq)
theorem mid_two{V U w w' w2:World}{g gx a:Nat}{x y:Ex}{ts r:List Tok}{A:Option Addr}{c:Nat}{es:List El}{v:El}(h:InP V U w g gx a x ts)(hX:XP gx w x A c es)(hd:Rel w w')(g2:w'.grownBy w2 (some g))(s2:StP V w2 g r a)(ex:ExAt (fun q=>w'.heap.size≤q) w2 v y){N:Nat}(_:w'.heap.size=N):Mid V U w2 g gx a x r A es.length c es v y:=
 mid_of h hX (grown_trans (grown_rel (some g) hd) g2) s2 (ex.weak fun q hq=>Nat.le_trans hd.size hq)
theorem Mid.pushed{V U w w3:World}{g gx a:Nat}{x y:Ex}{ts:List Tok}{A:Option Addr}{n c g' cap:Nat}{es:List El}{v:El}(h:Mid V U w g gx a x ts A n c es v y)(hp:App w w3 gx A n c g' cap es)(hn:es.length=n):
  Pushed w3 gx g' n cap x es v ((put4 w3 g' (n*4) v).setCell ⟨gx,3,none⟩ (.slice (some ⟨g',0,none⟩) (n+1) cap))∧Pushed w3 gx g' n cap x es v (put4 (w3.setCell ⟨gx,3,none⟩ (.slice (some ⟨g',0,none⟩) (n+1) cap)) g' (n*4) v):=by
 obtain⟨h1,h2,h3⟩:=hp
 have hb:=h.box h2
 have hne:=h.apart h1
 have hgo:some gx≠(Value.slice (some ⟨g',0,none⟩) (n+1) cap).ownBlock:=fun e=>hne (by have e:some gx=some g':=e;injection e with e;exact e.symm)
 have q1:Bk (put4 w3 g' (n*4) v) gx 54 #[.int .i64 x.k,.int .i64 x.n,.string (B x.nm),.slice A n c]:=(put4_block w3 g' (n*4) v gx (fun e=>hne e.symm)).trans hb
 have q2:Bk (put4 (w3.setCell ⟨gx,3,none⟩ (.slice (some ⟨g',0,none⟩) (n+1) cap)) g' (n*4) v) gx 54 #[.int .i64 x.k,.int .i64 x.n,.string (B x.nm),.slice (some ⟨g',0,none⟩) (n+1) cap]:=(put4_block _ g' (n*4) v gx (fun e=>hne e.symm)).trans (hb.set_ 3 (.slice (some ⟨g',0,none⟩) (n+1) cap))
 have ga:=put4_gr w3 g' (n*4) v
 have gb:=set_grown (put4 w3 g' (n*4) v) gx 3 (.slice (some ⟨g',0,none⟩) (n+1) cap)
 have gc:=set_grown w3 gx 3 (.slice (some ⟨g',0,none⟩) (n+1) cap)
 have gd:=put4_gr (w3.setCell ⟨gx,3,none⟩ (.slice (some ⟨g',0,none⟩) (n+1) cap)) g' (n*4) v
 have o1:=own_set (own_put4 (v:=v) h1 hn) (p:=⟨gx,3,none⟩) hgo (.slice (some ⟨g',0,none⟩) (n+1) cap)
 have o2:=own_put4 (v:=v) (own_set h1 (p:=⟨gx,3,none⟩) hgo (.slice (some ⟨g',0,none⟩) (n+1) cap)) hn
 constructor
 ·refine⟨q1.set_ 3 _,o1,fun q hq hq'=> ?_, ?_,gb.os.trans ga.os,gb.tape.trans ga.tape,gb.output.trans ga.output⟩
  ·rw[Below.heap_setCell _ _ _ _ (by simpa using hq),put4_block _ _ _ _ _ hq']
  ·simp only[World.size_setCell]
 ·refine⟨q2,o2,fun q hq hq'=> ?_, ?_,gd.os.trans gc.os,gd.tape.trans gc.tape,gd.output.trans gc.output⟩
  ·rw[put4_block _ _ _ _ _ hq',Below.heap_setCell _ _ _ _ (by simpa using hq)]
  ·simp only[World.size_setCell]
theorem Mid.push{V U w w3:World}{g gx a:Nat}{x y:Ex}{ts:List Tok}{A:Option Addr}{n c g' cap:Nat}{es:List El}{v:El}(h:Mid V U w g gx a x ts A n c es v y)(hp:App w w3 gx A n c g' cap es)(hn:es.length=n)(hx:x.l.length≤2)(W:World)(hW:Pushed w3 gx g' n cap x es v W):InP V U W g gx a (x.push y) ts:=by
 obtain⟨⟨m1,m2,m3,m4,m5,m6,m7,m8⟩,s,hg,hU,hG,ex⟩:=h
 obtain⟨h1,h2,h3⟩:=hp
 obtain⟨p1,p2,p3,p4,p5,p6,p7⟩:=hW
 have ho:=fun j (hj:(Value.slice A n c).ownBlock=some j)=>m2.lt j hj
 have hg':=h1.lt g' rfl
 have hsz:=h2.size
 have blk:∀q,q<w.heap.size→q≠gx→some q≠(Value.slice A n c).ownBlock→W.heap[q]?=w.heap[q]?:=fun q hq hne hno=>by
  rw[p3 q hne ?_]
  ·exact h2.block q hq hno
  ·rintro rfl
   rcases h3 with e|e
   ·exact hno e.symm
   ·omega
 have hgx:gx<w.heap.size:=m1.lt
 have gno:∀q,q≤gx→some q≠(Value.slice A n c).ownBlock:=fun q hq e=>by have:=(ho q e.symm).1;omega
 have exs:∀{e:El}{z:Ex},ExAt (fun q=>gx<q∧some q≠(Value.slice A n c).ownBlock) w e z→ExAt (fun q=>gx<q∧some q≠(Value.slice (some ⟨g',0,none⟩) (n+1) cap).ownBlock) W e z:=fun he=>he.mono (by omega) fun q hq hl=>by
  refine⟨⟨hq.1,fun e=> ?_⟩,blk q hl (by omega) hq.2⟩
  have e:q=g':=by injection e
  subst e
  rcases h3 with h|h
  ·exact hq.2 h.symm
  ·omega
 have hlen:(es++[v]).length=n+1:=by rw[List.length_append,hn];rfl
 have sp:StP V W g ts a:=by
  obtain⟨A0,c0,q1,q2,q3,q4,q5,q6,q7,q8⟩:=s
  refine⟨A0,c0,⟨q1.1,⟨p5.trans (h2.os.trans q1.2.os),p6.trans (h2.tape.trans q1.2.tape),p7.trans (h2.output.trans q1.2.output),by have:=q1.2.size;omega,fun k hk=> ?_⟩⟩,q2,q3,q4,q5,q6,q7,(blk g (by omega) (by omega) (gno g (by omega))).trans q8⟩
  have:=q1.2.size
  exact(blk k (by omega) (by omega) (gno k (by omega))).trans (q1.2.block k hk)
 refine⟨sp,hg,hU,⟨p5.trans (h2.os.trans hG.os),p6.trans (h2.tape.trans hG.tape),p7.trans (h2.output.trans hG.output),by have:=hG.size;omega,fun k hk hne=> ?_⟩,some ⟨g',0,none⟩,cap,es++[v], ?_⟩
 ·have:=hG.size
  exact(blk k (by omega) (by omega) (gno k (by omega))).trans (hG.block k hk hne)
 ·unfold XP
  rw[←hlen] at p1 p2
  have hpl:(x.push y).l=x.l++[y]:=rfl
  have all:∀i (hi:i<(es++[v]).length) (hi':i<(x.l++[y]).length),ExAt (fun q=>gx<q∧some q≠(Value.slice (some ⟨g',0,none⟩) (n+1) cap).ownBlock) W (es++[v])[i] (x.l++[y])[i]:=fun i hi hi'=>by
   rcases Nat.lt_or_ge i es.length with hlt|hge
   ·simp only[List.getElem_append_left hlt,List.getElem_append_left (show i<x.l.length by omega)]
    exact exs (m4 i hlt (by omega))
   ·have hie:i=es.length:=by rw[hlen] at hi;omega
    subst hie
    simp only[List.getElem_append_right (Nat.le_refl _),List.getElem_append_right (show x.l.length≤es.length by omega),Nat.sub_self,show es.length-x.l.length=0 by omega,List.getElem_cons_zero]
    exact exs ex
  refine⟨p1,p2,by rw[hlen,hpl,List.length_append,←m3,hn];rfl,fun i hi hi'=>all i hi hi',m5,m6,m7,by rw[hpl,List.length_append];simp;omega⟩
end Go.Proofs.YtjhjdiaomnpkmaaGreatDoor
