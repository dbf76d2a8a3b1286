/- Reading the document's own parse. -/

import Derived.Test.YtjhjdiaomnpkmaaGreatDoorZ35
set_option maxRecDepth 100000
set_option maxHeartbeats 8000000
set_option linter.unusedVariables false
set_option linter.unusedSimpArgs false
namespace Go.Proofs.YtjhjdiaomnpkmaaGreatDoor
open Go.RowKit Go.Lib
def Lp(V:World)(A:Option Addr)(c:Nat)(all:List Tok)(U w:World)(g r gx:Nat)(x:Ex)(s:PS):Prop:=InR V A c all U w g gx x s∧Bk w r 54 #[.int .i64 0,.int .i64 0,.string ⟨#[]⟩,.slice none 0 0]∧U.heap.size≤r∧r<gx
section
variable {V U w:World} {A:Option Addr} {c:Nat} {all:List Tok} {g r gx:Nat} {x:Ex} {s:PS}
theorem Lp.st(h:Lp V A c all U w g r gx x s):StR V A c all w g s:=h.1.1
theorem Lp.step{w':World}{s':PS}(h:Lp V A c all U w g r gx x s)(hg:w.grownBy w' (some g))(hs:StR V A c all w' g s'):Lp V A c all U w' g r gx x s':=
 ⟨h.1.step hg hs,h.2.1.grown hg (fun e=>by injection e;have:=h.1.2.1;have:=h.2.2.1;omega),h.2.2⟩
theorem Lp.rel{w':World}(h:Lp V A c all U w g r gx x s)(hr:Rel w w'):Lp V A c all U w' g r gx x s:=⟨h.1.rel hr,h.2.1.rel hr,h.2.2⟩
theorem Lp.set{y:Ex}(h:Lp V A c all U w g r gx x s)(o:Nat)(v:Value)(hy:∀A n c,(#[.int .i64 x.k,.int .i64 x.n,.string (B x.nm),.slice A n c]:Array Value).setIfInBounds o v= #[.int .i64 y.k,.int .i64 y.n,.string (B y.nm),.slice A n c])
  (hl:y.l=x.l) (hk:i64 y.k) (hn:i64 y.n) (hm:y.nm.length≤100):Lp V A c all U (w.setCell ⟨gx,o,none⟩ v) g r gx y s:=
 ⟨h.1.set o v hy hl hk hn hm,h.2.1.far (p:=⟨gx,o,none⟩) (by have:=h.2.2.2;simp only;omega) v,h.2.2⟩
theorem Lp.drew(h:Lp V A c all U w g r gx x s):Lp V A c all U w.drew g r gx x s:=h.rel (by obtain⟨_,a,_⟩:=h.st;exact a.self.drew)
theorem Lp.cells(h:Lp V A c all U w g r gx x s):(∃B' c',w.cell? ⟨gx,0,none⟩=some (.int .i64 x.k)∧w.cell? ⟨gx,1,none⟩=some (.int .i64 x.n)∧w.cell? ⟨gx,2,none⟩=some (.string (B x.nm))∧w.cell? ⟨gx,3,none⟩=some (.slice B' x.l.length c'))∧Rel w w:=by
 obtain⟨B',c',es,hb,_⟩:=h.1.box
 exact⟨⟨B',c',hb.four.1⟩,by obtain⟨_,a,_⟩:=h.st;exact Rel.right a⟩
theorem Lp.push{w2 w3:World}{y:Ex}{s':PS}{n:Nat}(hnn:x.l.length=n)(h:Lp V A c all U w g r gx x s){B':Option Addr}{c':Nat}{es:List El}(hX:XP gx w x B' c' es)(hx:n≤2){wd:World}(hd:Rel w wd)(g2:wd.grownBy w2 (some g))(s2:StR V A c all w2 g s'){v:El}(ex:ExAt (fun q=>wd.heap.size≤q) w2 v y)(o:Obj)
  {g' cap:Nat} (hown:w3.ownsRow (gx+1) 54 4 (.slice (some ⟨g',0,none⟩) (n+1) cap) (n+1) (cellsEs es++cellsE v)) (hgrow:(w2.alloc o).grownBy w3 (Value.slice B' n c').ownBlock) (hat:(Value.slice B' n c').ownBlock=some g'∨g'=w2.heap.size+1) (W:World) (hW:w3.setCell ⟨gx,3,none⟩ (.slice (some ⟨g',0,none⟩) (n+1) cap)=W):
  Lp V A c all U W g r gx (x.push y) s':=by
 subst hnn
 refine⟨h.1.push hX hx hd g2 s2 ex o hown hgrow hat W hW, ?_,h.2.2⟩
 obtain⟨⟨_,h2,_⟩,h5,h6,h7⟩:=h
 have hn:=hX.2.2.1
 have R2:Rel w2 (w2.alloc o):=by obtain⟨_,a,_⟩:=s2;exact a.self.alloc o
 have hz:=hX.2.1
 rw[hn] at hz
 rw[←hW]
 exact((((h5.rel hd).grown g2 (fun e=>by injection e;omega)).rel R2).grown hgrow (fun e=>by have:=(hz.lt _ e.symm).1;omega)).far (p:=⟨gx,3,none⟩) (by simp only;omega) _
theorem Lp.done(h:Lp V A c all U w g r gx x s)(hVU:V.heap.size≤U.heap.size):∃v:El,(w.cell? ⟨gx,0,none⟩=some (.int .i64 v.1)∧w.cell? ⟨gx,1,none⟩=some (.int .i64 v.2.1)∧w.cell? ⟨gx,2,none⟩=some (.string (B v.2.2.1))∧w.cell? ⟨gx,3,none⟩=some (.slice v.2.2.2.1 v.2.2.2.2.1 v.2.2.2.2.2))∧
  ∀W,(((w.setCell ⟨r,0,none⟩ (.int .i64 v.1)).setCell ⟨r,1,none⟩ (.int .i64 v.2.1)).setCell ⟨r,2,none⟩ (.string (B v.2.2.1))).setCell ⟨r,3,none⟩ (.slice v.2.2.2.1 v.2.2.2.2.1 v.2.2.2.2.2)=W→
   (W.cell? ⟨r,0,none⟩=some (.int .i64 v.1)∧W.cell? ⟨r,1,none⟩=some (.int .i64 v.2.1)∧W.cell? ⟨r,2,none⟩=some (.string (B v.2.2.1))∧W.cell? ⟨r,3,none⟩=some (.slice v.2.2.2.1 v.2.2.2.2.1 v.2.2.2.2.2))∧
   ExAt (fun q=>U.heap.size≤q) W v x∧StR V A c all W g s∧U.grownBy W (some g):=by
 obtain⟨⟨h1,h2,h3,h4,B',c',es,h5⟩,h6,h7,h8⟩:=h
 obtain⟨k,n,nm,l⟩:=x
 have hl:es.length=l.length:=h5.2.2.1
 refine⟨(k,n,nm,B',l.length,c'), ?_,fun W hW=> ?_⟩
 ·have:=h5.1.four.1
  rw[hl] at this
  exact this
 ·have gp:=put4_grown w r (.int .i64 k) (.int .i64 n) (.string (B nm)) (.slice B' l.length c')
  have hp:=(h6.put4 (.int .i64 k) (.int .i64 n) (.string (B nm)) (.slice B' l.length c')).four.1
  have hW:(((w.setCell ⟨r,0,none⟩ (.int .i64 k)).setCell ⟨r,1,none⟩ (.int .i64 n)).setCell ⟨r,2,none⟩ (.string (B nm))).setCell ⟨r,3,none⟩ (.slice B' l.length c')=W:=hW
  rw[hW] at gp hp
  refine⟨hp, ?_,h1.grown gp (fun e=>by injection e;omega) (fun k e=>by cases e;omega),grown_of h4 gp (fun k e=>by cases e;exact h7)⟩
  obtain⟨e1,e2,e3,e4,e5,e6,e7,e8⟩:=h5
  have base:=gp.size
  have ho:=fun q (hq:(Value.slice B' es.length c').ownBlock=some q)=>(e2.lt q hq).1
  refine .mk k n nm B' c' l es e5 e6 e7 hl ?_ (fun i hi hi'=> ?_)
  ·have hrow:RowE (fun q=>gx<q) w B' es:=ElsOwn.toks (base:=gx+1) (n:=es.length) (c:=c') (by unfold ElsOwn;exact e2) rfl (fun q hq=>by have:=(e2.lt q hq).1;omega)
   exact hrow.mono base fun q hq hl=>⟨by omega,gp.block q hl (fun e=>by injection e;omega)⟩
  ·exact(e4 i hi hi').mono base fun q hq hl=>⟨by have:=hq.1;omega,gp.block q hl (fun e=>by injection e;have:=hq.1;omega)⟩
end
theorem unwanted_ite{p:Bool}{X Y:Prop}(h:p=false)(k:Y):if p=true then X else Y:=by rw[if_neg (by rw[h];decide)];exact k
theorem rtake_is{V:World}{A:Option Addr}{c:Nat}{all:List Tok}{g:Nat}{s s':PS}{t:Tok}{k:Int}{x:List UInt8}{X:ByteArray}(h:Hid (takeR k x s=(t,s')))(hX:Hid (X=B x))(w:World)(hs:StR V A c all w g s):
  Calls Tryz.prog 64 #[.pointer (some ⟨g,0,none⟩),.int .i64 k,.string X] w fun e w'=>e= .returned (.agg #[.int .i64 t.1,.string (B t.2.1),.int .i64 t.2.2.1,.int .i64 t.2.2.2])∧StR V A c all w' g s'∧w.grownBy w' (some g):=by
 have:=rtake_any V A c all g s k x X hX w hs
 rw[h.out] at this
 exact this
theorem rwrong_is{V:World}{A:Option Addr}{c:Nat}{all:List Tok}{g:Nat}{s s':PS}{cd:Int}(h:Hid (wrongR cd s=s'))(w:World)(hs:StR V A c all w g s):
  Calls Tryz.prog 72 #[.pointer (some ⟨g,0,none⟩),.int .i64 cd] w fun e w'=>e= .returned (.tuple #[])∧StR V A c all w' g s'∧w.grownBy w' (some g)∧w'.heap.size=w.heap.size:=by
 rw[←h.out]
 exact rwrong_any V A c all g s cd w hs
theorem take_num{V:World}{A:Option Addr}{c:Nat}{all:List Tok}{w:World}{g:Nat}{s s':PS}{t:Tok}{k:Int}{x:List UInt8}(h:takeR k x s=(t,s'))(hs:StR V A c all w g s):i64 t.2.2.1:=by
 have hz:i64 0:=⟨by decide,by decide⟩
 unfold takeR at h
 split at h
 ·split at h
  ·injection h with a b;rw[←a];exact hs.head.2.1
  ·injection h with a b;rw[←a];exact hz
 ·injection h with a b;rw[←a];exact hz
theorem StR.look{V:World}{A:Option Addr}{c:Nat}{all:List Tok}{w:World}{g:Nat}{s:PS}(h:StR V A c all w g s):∃gT off j,A=some ⟨gT,off,none⟩∧j<all.length∧(w.cell? ⟨g,0,none⟩=some (.slice (some ⟨gT,off,none⟩) all.length c)∧w.cell? ⟨g,1,none⟩=some (.int .i64 (j:Int)))∧w.cell? ⟨gT,off+j*4+1,none⟩=some (.string (B (hdT s.1).2.1))∧w.cell? ⟨gT,off+j*4+2,none⟩=some (.int .i64 (hdT s.1).2.2.1):=by
 obtain⟨j,h1,h2,h3,h4,h5,h6,h7⟩:=h
 obtain⟨gT,off,rfl,_,a0,a1,a2,a3⟩:=(h3.rel h1) j h7
 obtain⟨⟨c0,c1,c2⟩,_⟩:=h5.three
 rw[h6,hd_drop h7]
 exact⟨gT,off,j,rfl,h7,⟨c0,c1⟩,a1,a2⟩
theorem name_is(nm:List UInt8)(b:Bool)(h:Hid (isName nm=b))(hs:nm.length≤100)(w:World)(hr:Rel w w):Calls Tryz.prog 57 #[.string (B nm)] w fun e w'=>e= .returned (.bool b)∧Rel w w':=
 bool_at b (rname_any (B nm) (by show nm.toArray.size≤_;simp;omega) w w hr) (yH (by rw[←h.out];rfl))
theorem rexpr_call(V:World)(A:Option Addr)(c:Nat)(all:List Tok)(d:Nat)(hd:d+1≤32)(E:ExprS V A c all d)(cb:Bool)(ts:List Tok)(g:Nat)(w:World)(h:StR V A c all w g (ts,0))(k0:Int)(hk0:kindT cb (hdT ts)=k0)(hka:3≤k0)(hkb:k0≤12)(hk4:k0≠4):
  Calls Tryz.prog 63 #[.pointer (some ⟨g,0,none⟩),.int .i64 (32-((d+1:Nat):Int)),.bool cb] w fun e w'=>∃v:El,e= .returned (EV v)∧ExAt (fun k=>w.heap.size≤k) w' v (exprR (d+1) cb (ts,0)).1∧StR V A c all w' g (exprR (d+1) cb (ts,0)).2∧w.grownBy w' (some g):=by
 obtain⟨i0,hi,hz0,hz1,hz2'⟩:=info_parts ex_info
 have hgl:=h.lt
 have hVw:V.heap.size≤w.heap.size:=by obtain⟨_,a,_⟩:=h;exact a.size
 have hA:Rel w (w.alloc (.cells #[.int .i64 0,.int .i64 0,.string ⟨#[]⟩,.slice none 0 0] 54)):=by obtain⟨_,a,_⟩:=h;exact a.self.alloc _
 have HN:=yH (Bk.new w 54 #[.int .i64 0,.int .i64 0,.string ⟨#[]⟩,.slice none 0 0])
 have HS1:=yH (h.rel hA)
 have HG1:=yH (grown_rel (some g) hA)
 have HKi:Hid (∀(w':World)(s':PS),s'.1=ts→StR V A c all w' g s'→Calls Tryz.prog 73 #[.pointer (some ⟨g,0,none⟩),.bool cb] w' fun e w''=>e= .returned (.int .i64 k0)∧Rel w' w''):=yH (fun w' s' h1 h2=>by
  have:=rkind_any V A c all g s' cb w' h2
  rw[h1,hk0] at this
  exact this)
 have hzA:(w.alloc (.cells #[.int .i64 0,.int .i64 0,.string ⟨#[]⟩,.slice none 0 0] 54)).heap.size=w.heap.size+1:=World.size_alloc ..
 obtain⟨m,hm⟩:∃m:Nat,argsN k0=(m:Int):=⟨(argsN k0).toNat,args_nat (by omega) hkb⟩
 have HM:=yH hm
 have hm3:m≤3:=by have:=args_le k0;omega
 obtain⟨⟨t1,s1⟩,h1⟩:∃p,takeR 1 [] (ts,0)=p:=⟨_,rfl⟩
 obtain⟨⟨t2,s2⟩,h2⟩:∃p,takeR 4 [40] s1=p:=⟨_,rfl⟩
 obtain⟨⟨l3,s3⟩,h3⟩:∃p,uptoR (exprR d) k0 m s2=p:=⟨_,rfl⟩
 have T1:=yH h1
 have T2:=yH h2
 have H3:=yH h3
 have HF:=yH (show exprR (d+1) cb (ts,0)=(.mk k0 (restR k0 s3).1.1 (restR k0 s3).1.2 l3,(takeR 4 [41] (restR k0 s3).2).2) by
  unfold exprR
  rw[if_neg (fun hh=>hh rfl),hk0,if_neg (by omega),if_neg hk4,if_neg (by omega),h1]
  unfold callR
  simp only
  rw[h2]
  simp only
  rw[hm,show((m:Int)).toNat=m from rfl,h3])
 have HNi:Hid (i64 k0):=yH ⟨by omega,by omega⟩
 have HZi:Hid (i64 0):=yH ⟨by decide,by decide⟩
 have q0:(k0==0)=false:=by simp;omega
 have q1:(k0==1)=false:=by simp;omega
 have q2:(k0==2)=false:=by simp;omega
 have q4:(k0==4)=false:=by simp;omega
 obtain⟨D,hD⟩:∃D:Int,32-((d+1:Nat):Int)=D:=⟨_,rfl⟩
 obtain⟨D1,hD1⟩:∃D:Int,32-(d:Int)=D:=⟨_,rfl⟩
 have hD': ¬(32≤D):=by omega
 have hDw:IntKind.i64.wrap (D+1)=D1:=by rw[IntWalk.i64_in _ (by omega)];omega
 have HEx:Hid (∀(b:Bool)(s:PS)(y:Ex)(s':PS),exprR d b s=(y,s')→∀(w:World),StR V A c all w g s→Calls Tryz.prog 63 #[.pointer (some ⟨g,0,none⟩),.int .i64 D1,.bool b] w fun e w'=>∃v:El,e= .returned (EV v)∧ExAt (fun k=>w.heap.size≤k) w' v y∧StR V A c all w' g s'∧w.grownBy w' (some g)):=yH (fun b s y s' e w h=>by
  have:=E b s g w h
  rw[e,hD1] at this
  exact this)
 have S1:=HS1
 have N1:=HN
 have G1:=HG1
 rw[hD]
 have HK34:=yH (And.intro hka (And.intro hkb hk4))
 obtain⟨HQ⟩:Nonempty (Hid (k0=3∨k0=5∨k0=6∨k0=11∨((k0==3)=false∧(k0==5)=false∧(k0==6)=false∧(k0==11)=false∧k0≠3∧k0≠5∧k0≠6∧k0≠11))):=⟨yH (by
  by_cases e3:k0=3
  ·exact .inl e3
  ·by_cases e5:k0=5
   ·exact .inr (.inl e5)
   ·by_cases e6:k0=6
    ·exact .inr (.inr (.inl e6))
    ·by_cases e7:k0=11
     ·exact .inr (.inr (.inr (.inl e7)))
     ·exact .inr (.inr (.inr (.inr ⟨by simpa using e3,by simpa using e5,by simpa using e6,by simpa using e7,e3,e5,e6,e7⟩))))⟩
 clear hk0 h hA hD hD1 hm h1 h2 h3 E hka hkb hk4
 go_enter Tryz.func63,Tryz.ntmps63
 go_wp2_with (first
  |(go_at_call 73;(with_reducible refine(HKi.out _ _ rfl S1.out).mono ?_);rintro e w3 ⟨rfl,h3⟩;have hz3:=h3.size;have h4:=h3.trans ((Rel.right h3).alloc (.cells #[.int .i64 k0,.int .i64 0,.string ⟨#[]⟩,.slice none 0 0] 54));have HNW:=yH (N1.out.rel h4);have HSW:=yH (S1.out.rel h4);have HGW:=yH (grown_trans G1.out (grown_rel (some g) h4));have e2':=HSW.out.err;have hne1: ¬w3.heap.size=w.heap.size:=(by omega);have hne2: ¬w.heap.size=w3.heap.size:=(by omega);have HX:=yH (Bk.new w3 54 #[.int .i64 k0,.int .i64 0,.string ⟨#[]⟩,.slice none 0 0]);obtain⟨⟨b0,b1,b2,b3⟩,_⟩:=HX.out.four;have HL0:=yH (show Lp V A c all w (w3.alloc (.cells #[.int .i64 k0,.int .i64 0,.string ⟨#[]⟩,.slice none 0 0] 54)) g w.heap.size w3.heap.size (.mk k0 0 [] []) (ts,0) from⟨⟨HSW.out,hgl,by omega,HGW.out,none,0,[],HX.out,World.ownsRow_nil _ _ _ _,rfl,fun i h=>absurd h (by simp),HNi.out,HZi.out,by simp[Ex.nm],by simp[Ex.l]⟩,HNW.out,Nat.le_refl _,by omega⟩))
  |(go_at_call 64;(with_reducible refine(rtake_is (X:=⟨#[]⟩) T1 (yH rfl) _ HL0.out.st).mono ?_);rintro e w4 ⟨rfl,s4,g4⟩;have HL1:=yH (HL0.out.step g4 s4);obtain⟨B1,c1,es1,hb1,_⟩:=HL1.out.1.box;obtain⟨⟨d0,d1,d2,d3⟩,_⟩:=hb1.four;clear hb1;simp only[Ex.k,Ex.n,Ex.nm] at d0 d1 d2 d3)
  |(go_at_call 64;(with_reducible refine(rtake_is (X:=⟨#[40]⟩) T2 (yH rfl) _ HL1.out.st).mono ?_);rintro e w5 ⟨rfl,s5,g5⟩;have HL2:=yH (HL1.out.step g5 s5)))
 obtain⟨gx,hgx⟩:∃gx,w3.heap.size=gx:=⟨_,rfl⟩
 rw[hgx] at HL2 hne1 hne2⊢
 have HGx:=yH hgx
 have hgxl:w.heap.size<gx:=by have:=HL2.out.2.2.2;exact this
 clear hgx hz3 h3 h4 e2' b0 b1 b2 b3 s4 g4 s5 g5 d0 d1 d2 d3 HX HL0 HL1 HNW HSW HGW
 go_loopw [8] (fun i wr=>∃(j:Nat),j≤m∧i= .int .i64 (j:Int)∧Hid (Lp V A c all w wr g w.heap.size gx (.mk k0 0 [] (uptoR (exprR d) k0 j s2).1) (uptoR (exprR d) k0 j s2).2)) (fun i _=>m-(RowKit.intOf i).toNat)
 case atStart=>exact⟨0,by omega,rfl,HL2⟩
 case round=>
  obtain⟨j,hem,rfl,HE⟩:=hrel
  clear HL2
  by_cases hlt:j<m
  ·obtain⟨⟨l,sj⟩,hup⟩:∃p,uptoR (exprR d) k0 j s2=p:=⟨_,rfl⟩
   have HUp:=yH hup
   have hll:l.length=j:=by have:=upto_lenR (exprR d) k0 s2 j;rw[hup] at this;exact this
   have HLl:=yH hll
   rw[hup] at HE
   simp only at HE
   clear hup hll
   have hm9:j≤2:=by omega
   obtain⟨b,hb⟩:∃b,b=(decide (k0=10)&&decide (j=0)):=⟨_,rfl⟩
   obtain⟨sb,hsb⟩:∃sb,betweenR j sj=sb:=⟨_,rfl⟩
   obtain⟨⟨y,s'⟩,hy⟩:∃p,exprR d b sb=p:=⟨_,rfl⟩
   have HY:=yH hy
   have HNext:=yH (show uptoR (exprR d) k0 (j+1) s2=(l++[y],s') by
    unfold uptoR
    rw[HUp.out]
    simp only
    rw[←hb,hsb,hy])
   have HSb:=yH hsb
   have hbw:((k0==10)=true∧((j:Int)==0)=true∧b=true)∨((k0==10)=true∧((j:Int)==0)=false∧b=false)∨((k0==10)=false∧b=false):=by
    by_cases e1:k0=10<;>by_cases e2:j=0<;>simp[hb,e1,e2]
   have hj0:(j=0∧ ¬(0<(j:Int)))∨(j≠0∧(0<(j:Int))):=by omega
   clear hy hb hsb
   obtain⟨Bj,cj,esj,hbj,hXj⟩:=HE.out.1.box
   have HXj:=yH hXj
   have hbj:Bk wr gx 54 #[.int .i64 k0,.int .i64 0,.string ⟨#[]⟩,.slice Bj j cj]:=by rw[←HLl.out];exact hbj
   have HBj:=yH hbj
   obtain⟨⟨c0,c1,c2,c3⟩,f0,f1,f2,f3⟩:=hbj.four
   clear hbj hXj
   rcases hj0 with ⟨hj0,hjp⟩|⟨hj0,hjp⟩
   ·skip
    have hsb:sj=sb:=by have:=HSb.out;unfold betweenR at this;rwa [if_pos hj0] at this
    subst hsb
    clear hj0
    go_wp2_with (go_at_call 50;(with_reducible refine(args_as k0 (m:Int) HM _).mono ?_);rintro e w' ⟨rfl,rfl⟩)
    obtain⟨x0,x1,x2,x3⟩:=And.intro c0 (And.intro c1 (And.intro c2 c3))
    refine wp_region_any (by kernel_rfl) ?_
    change wpAny _ _ _ _ _ _ _ wr.drew
    refine yM [0,2,3,4,5] (by kernel_rfl) (fun _ _ _ _ _=>id) ?_
    iterate 5
     refine yT rfl rfl (by rfl) ?_ ?_ ?_
     rotate_left
     ·intro w';go_simp;try with_reducible rfl
     try simp only[Act.put,yA,yB,yC]
    refine yZ ?_
    refine till_take (i:=1) (v:= ?_) (S:=fun w'=>w'.cell? ⟨gx,3,none⟩=some (.slice Bj j cj)) (some 61) rfl rfl (by kernel_rfl) (by kernel_rfl) (by kernel_rfl) (fun _ _ _ h=>h) (Or.inl ⟨by rfl, ?_⟩) x3 ?_
    rotate_left 1
    ·intro w' hSw;go_simp;try with_reducible rfl
    try simp only[Act.put,yA,yB,yC]
    rcases hbw with ⟨b1,b2,rfl⟩|⟨b1,b2,rfl⟩|⟨b1,rfl⟩
    ·skip
     refine till_one (j:=6) (by kernel_rfl) rfl (fun K hK=> ?_)
     try simp only[yD,yE,yF]
     rw[if_pos (by rfl)]
     go_simp
     refine hK.out _ _ x3 ?_
     clear hK K
     try simp only[Act.put,yA,yB,yC]
     refine till_one (j:=7) (by kernel_rfl) rfl (fun K hK=> ?_)
     try simp only[yD,yE,yF]
     rw[if_pos (by rfl)]
     go_simp
     refine hK.out _ _ x3 ?_
     clear hK K
     try simp only[Act.put,yA,yB,yC]
     refine till_one (j:=8) (by kernel_rfl) rfl (fun K hK=> ?_)
     try simp only[yD,yE,yF]
     rw[if_pos (by rfl)]
     go_simp
     refine hK.out _ _ x3 ?_
     clear hK K
     try simp only[Act.put,yA,yB,yC]
     refine till_one (j:=9) (by kernel_rfl) rfl (fun K hK=> ?_)
     try simp only[yD,yE,yF]
     rw[if_pos (by rfl)]
     go_simp
     refine hK.out _ _ x3 ?_
     clear hK K
     try simp only[Act.put,yA,yB,yC]
     refine till_one (j:=10) (by kernel_rfl) rfl (fun K hK=> ?_)
     try simp only[yD,yE,yF]
     rw[if_pos (by rfl)]
     go_simp
     refine hK.out _ _ x3 ?_
     clear hK K
     try simp only[Act.put,yA,yB,yC]
     refine till_one (j:=11) (by kernel_rfl) rfl (fun K hK=> ?_)
     try simp only[yD,yE,yF]
     rw[if_pos (by rfl)]
     go_simp
     refine hK.out _ _ x3 ?_
     clear hK K
     try simp only[Act.put,yA,yB,yC]
     refine till_one (j:=12) (by kernel_rfl) rfl (fun K hK=> ?_)
     try simp only[yD,yE,yF]
     rw[if_pos (by rfl)]
     go_simp
     have Rd:Rel wr wr.drew:=by obtain⟨_,a,_⟩:=HE.out.st;exact a.self.drew
     go_at_call 63
     (with_reducible refine(HEx.out _ _ y s' HY.out _ (HE.out.st.rel Rd)).mono ?_)
     rintro e w2 ⟨vx,rfl,ex,s2',g2⟩
     have K2:=(HBj.out.rel Rd).grown g2 (fun e=>by injection e;omega)
     have hz2:=g2.size
     have hzd:wr.drew.heap.size=wr.heap.size:=rfl
     have d3:=K2.cell 3
     have e3:=(K2.alloc (.cells #[.int .i64 vx.1,.int .i64 vx.2.1,.string (B vx.2.2.1),.slice vx.2.2.2.1 vx.2.2.2.2.1 vx.2.2.2.2.2] 54)).cell 3
     refine hK.out _ _ d3 ?_
     clear hK K
     try simp only[Act.put,yA,yB,yC]
     refine till_one (j:=13) (by kernel_rfl) rfl (fun K hK=> ?_)
     try simp only[yD,yE,yF]
     go_simp
     refine hK.out _ _ e3 ?_
     clear hK K
     try simp only[Act.put,yA,yB,yC]
     refine till_late (j:=14) (by kernel_rfl) rfl (by kernel_rfl) (fun K hK=> ?_)
     try simp only[yD,yE,yF]
     have hOA:=(show w2.ownsRow (gx+1) 54 4 (.slice Bj j cj) j (cellsEs esj) from by rw[←HLl.out];exact HE.out.1.own HXj.out (grown_trans (grown_rel (some g) Rd) g2)).alloc (.cells #[.int .i64 vx.1,.int .i64 vx.2.1,.string (B vx.2.2.1),.slice vx.2.2.2.1 vx.2.2.2.2.1 vx.2.2.2.2.2] 54)
     have hgw:gx<wr.heap.size:=HXj.out.lt
     have hb4:gx+1≤(w2.alloc (.cells #[.int .i64 vx.1,.int .i64 vx.2.1,.string (B vx.2.2.1),.slice vx.2.2.2.1 vx.2.2.2.2.1 vx.2.2.2.2.2] 54)).heap.size:=by rw[World.size_alloc];omega
     rw[if_pos (by rfl)]
     refine wp_append_lies _ _ _ _ rfl (gx+1) 54 i0 _ 4 56 Tryz.underlying52 hi hz0 hz1 hz2' rfl (by decide) (.slice Bj j cj) j (cellsEs esj) rfl hOA ⟨w2.heap.size,0,none⟩ 1 1 (cellsE vx) rfl rfl (World.news_of_block (Bk.new w2 54 #[.int .i64 vx.1,.int .i64 vx.2.1,.string (B vx.2.2.1),.slice vx.2.2.2.1 vx.2.2.2.2.1 vx.2.2.2.2.2])) (cellsE_one _) (by decide) (by unfold maxLen;omega) (by omega) hb4 (w2.heap.size+1) (by simp) ?_
     intro g' cap w3' hown3 hgrow hat hlt3
     have K3:=(K2.alloc (.cells #[.int .i64 vx.1,.int .i64 vx.2.1,.string (B vx.2.2.1),.slice vx.2.2.2.1 vx.2.2.2.2.1 vx.2.2.2.2.2] 54)).grown hgrow (fun e=>by have:=(hOA.lt _ e.symm).1;omega)
     have y3:=K3.cell 3
     have u3:=K3.frozen 3
     simp only[List.getElem?_toArray,List.getElem?_cons_succ,List.getElem?_cons_zero] at y3
     refine hK.out _ _ ?_
     clear hK K
     try simp only[Act.put,yA,yB,yC]
     refine till_late (j:=15) (by kernel_rfl) rfl (by kernel_rfl) (fun K hK=> ?_)
     try simp only[yD,yE,yF]
     go_simp
     refine hK.out _ _ ?_
     clear hK K
     try simp only[Act.put,yA,yB,yC]
     refine till_late (j:=16) (by kernel_rfl) rfl (by kernel_rfl) (fun K hK=> ?_)
     try simp only[yD,yE,yF]
     go_simp
     refine hK.out _ _ ?_
     clear hK K
     try simp only[Act.put,yA,yB,yC]
     refine till_done (by kernel_rfl) ?_ _
     have HNx:=yH (Lp.push (x:= .mk k0 0 [] l) (show(Ex.mk k0 0 [] l).l.length=j from HLl.out) HE.out HXj.out hm9 Rd g2 s2' ex (.cells #[.int .i64 vx.1,.int .i64 vx.2.1,.string (B vx.2.2.1),.slice vx.2.2.2.1 vx.2.2.2.2.1 vx.2.2.2.2.2] 54) hown3 hgrow hat _ rfl)
     go_wp2_with (fail)
     go_roundw
     case rel=>exact⟨j+1,by omega,by go_num,by rw[HNext.out];exact HNx⟩
     case measure=>simp[RowKit.intOf];omega
    ·skip
     refine till_one (j:=6) (by kernel_rfl) rfl (fun K hK=> ?_)
     try simp only[yD,yE,yF]
     rw[if_pos (by rfl)]
     go_simp
     refine hK.out _ _ x3 ?_
     clear hK K
     try simp only[Act.put,yA,yB,yC]
     refine till_one (j:=7) (by kernel_rfl) rfl (fun K hK=> ?_)
     try simp only[yD,yE,yF]
     rw[if_pos (by rfl)]
     go_simp
     refine hK.out _ _ x3 ?_
     clear hK K
     try simp only[Act.put,yA,yB,yC]
     refine till_one (j:=8) (by kernel_rfl) rfl (fun K hK=> ?_)
     try simp only[yD,yE,yF]
     rw[if_pos (by rfl)]
     go_simp
     refine hK.out _ _ x3 ?_
     clear hK K
     try simp only[Act.put,yA,yB,yC]
     refine till_one (j:=9) (by kernel_rfl) rfl (fun K hK=> ?_)
     try simp only[yD,yE,yF]
     rw[if_pos (by rfl)]
     go_simp
     refine hK.out _ _ x3 ?_
     clear hK K
     try simp only[Act.put,yA,yB,yC]
     refine till_one (j:=10) (by kernel_rfl) rfl (fun K hK=> ?_)
     try simp only[yD,yE,yF]
     rw[if_pos (by rfl)]
     go_simp
     refine hK.out _ _ x3 ?_
     clear hK K
     try simp only[Act.put,yA,yB,yC]
     refine till_one (j:=11) (by kernel_rfl) rfl (fun K hK=> ?_)
     try simp only[yD,yE,yF]
     rw[if_pos (by rfl)]
     go_simp
     refine hK.out _ _ x3 ?_
     clear hK K
     try simp only[Act.put,yA,yB,yC]
     refine till_one (j:=12) (by kernel_rfl) rfl (fun K hK=> ?_)
     try simp only[yD,yE,yF]
     rw[if_pos (by rfl)]
     go_simp
     have Rd:Rel wr wr.drew:=by obtain⟨_,a,_⟩:=HE.out.st;exact a.self.drew
     go_at_call 63
     (with_reducible refine(HEx.out _ _ y s' HY.out _ (HE.out.st.rel Rd)).mono ?_)
     rintro e w2 ⟨vx,rfl,ex,s2',g2⟩
     have K2:=(HBj.out.rel Rd).grown g2 (fun e=>by injection e;omega)
     have hz2:=g2.size
     have hzd:wr.drew.heap.size=wr.heap.size:=rfl
     have d3:=K2.cell 3
     have e3:=(K2.alloc (.cells #[.int .i64 vx.1,.int .i64 vx.2.1,.string (B vx.2.2.1),.slice vx.2.2.2.1 vx.2.2.2.2.1 vx.2.2.2.2.2] 54)).cell 3
     refine hK.out _ _ d3 ?_
     clear hK K
     try simp only[Act.put,yA,yB,yC]
     refine till_one (j:=13) (by kernel_rfl) rfl (fun K hK=> ?_)
     try simp only[yD,yE,yF]
     go_simp
     refine hK.out _ _ e3 ?_
     clear hK K
     try simp only[Act.put,yA,yB,yC]
     refine till_late (j:=14) (by kernel_rfl) rfl (by kernel_rfl) (fun K hK=> ?_)
     try simp only[yD,yE,yF]
     have hOA:=(show w2.ownsRow (gx+1) 54 4 (.slice Bj j cj) j (cellsEs esj) from by rw[←HLl.out];exact HE.out.1.own HXj.out (grown_trans (grown_rel (some g) Rd) g2)).alloc (.cells #[.int .i64 vx.1,.int .i64 vx.2.1,.string (B vx.2.2.1),.slice vx.2.2.2.1 vx.2.2.2.2.1 vx.2.2.2.2.2] 54)
     have hgw:gx<wr.heap.size:=HXj.out.lt
     have hb4:gx+1≤(w2.alloc (.cells #[.int .i64 vx.1,.int .i64 vx.2.1,.string (B vx.2.2.1),.slice vx.2.2.2.1 vx.2.2.2.2.1 vx.2.2.2.2.2] 54)).heap.size:=by rw[World.size_alloc];omega
     rw[if_pos (by rfl)]
     refine wp_append_lies _ _ _ _ rfl (gx+1) 54 i0 _ 4 56 Tryz.underlying52 hi hz0 hz1 hz2' rfl (by decide) (.slice Bj j cj) j (cellsEs esj) rfl hOA ⟨w2.heap.size,0,none⟩ 1 1 (cellsE vx) rfl rfl (World.news_of_block (Bk.new w2 54 #[.int .i64 vx.1,.int .i64 vx.2.1,.string (B vx.2.2.1),.slice vx.2.2.2.1 vx.2.2.2.2.1 vx.2.2.2.2.2])) (cellsE_one _) (by decide) (by unfold maxLen;omega) (by omega) hb4 (w2.heap.size+1) (by simp) ?_
     intro g' cap w3' hown3 hgrow hat hlt3
     have K3:=(K2.alloc (.cells #[.int .i64 vx.1,.int .i64 vx.2.1,.string (B vx.2.2.1),.slice vx.2.2.2.1 vx.2.2.2.2.1 vx.2.2.2.2.2] 54)).grown hgrow (fun e=>by have:=(hOA.lt _ e.symm).1;omega)
     have y3:=K3.cell 3
     have u3:=K3.frozen 3
     simp only[List.getElem?_toArray,List.getElem?_cons_succ,List.getElem?_cons_zero] at y3
     refine hK.out _ _ ?_
     clear hK K
     try simp only[Act.put,yA,yB,yC]
     refine till_late (j:=15) (by kernel_rfl) rfl (by kernel_rfl) (fun K hK=> ?_)
     try simp only[yD,yE,yF]
     go_simp
     refine hK.out _ _ ?_
     clear hK K
     try simp only[Act.put,yA,yB,yC]
     refine till_late (j:=16) (by kernel_rfl) rfl (by kernel_rfl) (fun K hK=> ?_)
     try simp only[yD,yE,yF]
     go_simp
     refine hK.out _ _ ?_
     clear hK K
     try simp only[Act.put,yA,yB,yC]
     refine till_done (by kernel_rfl) ?_ _
     have HNx:=yH (Lp.push (x:= .mk k0 0 [] l) (show(Ex.mk k0 0 [] l).l.length=j from HLl.out) HE.out HXj.out hm9 Rd g2 s2' ex (.cells #[.int .i64 vx.1,.int .i64 vx.2.1,.string (B vx.2.2.1),.slice vx.2.2.2.1 vx.2.2.2.2.1 vx.2.2.2.2.2] 54) hown3 hgrow hat _ rfl)
     go_wp2_with (fail)
     go_roundw
     case rel=>exact⟨j+1,by omega,by go_num,by rw[HNext.out];exact HNx⟩
     case measure=>simp[RowKit.intOf];omega
    ·skip
     refine till_one (j:=6) (by kernel_rfl) rfl (fun K hK=> ?_)
     try simp only[yD,yE,yF]
     rw[if_pos (by rfl)]
     go_simp
     refine hK.out _ _ x3 ?_
     clear hK K
     try simp only[Act.put,yA,yB,yC]
     refine till_one (j:=7) (by kernel_rfl) rfl (fun K hK=> ?_)
     try simp only[yD,yE,yF]
     rw[if_pos (by rfl)]
     go_simp
     refine hK.out _ _ x3 ?_
     clear hK K
     try simp only[Act.put,yA,yB,yC]
     refine till_one (j:=8) (by kernel_rfl) rfl (fun K hK=> ?_)
     try simp only[yD,yE,yF]
     rw[if_pos (by rfl)]
     go_simp
     refine hK.out _ _ x3 ?_
     clear hK K
     try simp only[Act.put,yA,yB,yC]
     refine till_one (j:=9) (by kernel_rfl) rfl (fun K hK=> ?_)
     try simp only[yD,yE,yF]
     refine unwanted_ite (by rfl) ?_
     refine hK.out _ _ x3 ?_
     clear hK K
     try simp only[Act.put,yA,yB,yC]
     refine till_one (j:=10) (by kernel_rfl) rfl (fun K hK=> ?_)
     try simp only[yD,yE,yF]
     refine unwanted_ite (by rfl) ?_
     refine hK.out _ _ x3 ?_
     clear hK K
     try simp only[Act.put,yA,yB,yC]
     refine till_one (j:=11) (by kernel_rfl) rfl (fun K hK=> ?_)
     try simp only[yD,yE,yF]
     rw[if_pos (by rfl)]
     go_simp
     refine hK.out _ _ x3 ?_
     clear hK K
     try simp only[Act.put,yA,yB,yC]
     refine till_one (j:=12) (by kernel_rfl) rfl (fun K hK=> ?_)
     try simp only[yD,yE,yF]
     rw[if_pos (by rfl)]
     go_simp
     have Rd:Rel wr wr.drew:=by obtain⟨_,a,_⟩:=HE.out.st;exact a.self.drew
     go_at_call 63
     (with_reducible refine(HEx.out _ _ y s' HY.out _ (HE.out.st.rel Rd)).mono ?_)
     rintro e w2 ⟨vx,rfl,ex,s2',g2⟩
     have K2:=(HBj.out.rel Rd).grown g2 (fun e=>by injection e;omega)
     have hz2:=g2.size
     have hzd:wr.drew.heap.size=wr.heap.size:=rfl
     have d3:=K2.cell 3
     have e3:=(K2.alloc (.cells #[.int .i64 vx.1,.int .i64 vx.2.1,.string (B vx.2.2.1),.slice vx.2.2.2.1 vx.2.2.2.2.1 vx.2.2.2.2.2] 54)).cell 3
     refine hK.out _ _ d3 ?_
     clear hK K
     try simp only[Act.put,yA,yB,yC]
     refine till_one (j:=13) (by kernel_rfl) rfl (fun K hK=> ?_)
     try simp only[yD,yE,yF]
     go_simp
     refine hK.out _ _ e3 ?_
     clear hK K
     try simp only[Act.put,yA,yB,yC]
     refine till_late (j:=14) (by kernel_rfl) rfl (by kernel_rfl) (fun K hK=> ?_)
     try simp only[yD,yE,yF]
     have hOA:=(show w2.ownsRow (gx+1) 54 4 (.slice Bj j cj) j (cellsEs esj) from by rw[←HLl.out];exact HE.out.1.own HXj.out (grown_trans (grown_rel (some g) Rd) g2)).alloc (.cells #[.int .i64 vx.1,.int .i64 vx.2.1,.string (B vx.2.2.1),.slice vx.2.2.2.1 vx.2.2.2.2.1 vx.2.2.2.2.2] 54)
     have hgw:gx<wr.heap.size:=HXj.out.lt
     have hb4:gx+1≤(w2.alloc (.cells #[.int .i64 vx.1,.int .i64 vx.2.1,.string (B vx.2.2.1),.slice vx.2.2.2.1 vx.2.2.2.2.1 vx.2.2.2.2.2] 54)).heap.size:=by rw[World.size_alloc];omega
     rw[if_pos (by rfl)]
     refine wp_append_lies _ _ _ _ rfl (gx+1) 54 i0 _ 4 56 Tryz.underlying52 hi hz0 hz1 hz2' rfl (by decide) (.slice Bj j cj) j (cellsEs esj) rfl hOA ⟨w2.heap.size,0,none⟩ 1 1 (cellsE vx) rfl rfl (World.news_of_block (Bk.new w2 54 #[.int .i64 vx.1,.int .i64 vx.2.1,.string (B vx.2.2.1),.slice vx.2.2.2.1 vx.2.2.2.2.1 vx.2.2.2.2.2])) (cellsE_one _) (by decide) (by unfold maxLen;omega) (by omega) hb4 (w2.heap.size+1) (by simp) ?_
     intro g' cap w3' hown3 hgrow hat hlt3
     have K3:=(K2.alloc (.cells #[.int .i64 vx.1,.int .i64 vx.2.1,.string (B vx.2.2.1),.slice vx.2.2.2.1 vx.2.2.2.2.1 vx.2.2.2.2.2] 54)).grown hgrow (fun e=>by have:=(hOA.lt _ e.symm).1;omega)
     have y3:=K3.cell 3
     have u3:=K3.frozen 3
     simp only[List.getElem?_toArray,List.getElem?_cons_succ,List.getElem?_cons_zero] at y3
     refine hK.out _ _ ?_
     clear hK K
     try simp only[Act.put,yA,yB,yC]
     refine till_late (j:=15) (by kernel_rfl) rfl (by kernel_rfl) (fun K hK=> ?_)
     try simp only[yD,yE,yF]
     go_simp
     refine hK.out _ _ ?_
     clear hK K
     try simp only[Act.put,yA,yB,yC]
     refine till_late (j:=16) (by kernel_rfl) rfl (by kernel_rfl) (fun K hK=> ?_)
     try simp only[yD,yE,yF]
     go_simp
     refine hK.out _ _ ?_
     clear hK K
     try simp only[Act.put,yA,yB,yC]
     refine till_done (by kernel_rfl) ?_ _
     have HNx:=yH (Lp.push (x:= .mk k0 0 [] l) (show(Ex.mk k0 0 [] l).l.length=j from HLl.out) HE.out HXj.out hm9 Rd g2 s2' ex (.cells #[.int .i64 vx.1,.int .i64 vx.2.1,.string (B vx.2.2.1),.slice vx.2.2.2.1 vx.2.2.2.2.1 vx.2.2.2.2.2] 54) hown3 hgrow hat _ rfl)
     go_wp2_with (fail)
     go_roundw
     case rel=>exact⟨j+1,by omega,by go_num,by rw[HNext.out];exact HNx⟩
     case measure=>simp[RowKit.intOf];omega
   ·skip
    obtain⟨⟨tb,sb'⟩,hb⟩:∃p,takeR 4 [44] sj=p:=⟨_,rfl⟩
    have TB:=yH hb
    have hsb:sb'=sb:=by have:=HSb.out;unfold betweenR at this;rw[if_neg hj0,hb] at this;exact this
    subst hsb
    clear hb hj0
    go_wp2_with (first|(go_at_call 50;(with_reducible refine(args_as k0 (m:Int) HM _).mono ?_);rintro e w' ⟨rfl,rfl⟩)|(go_at_call 64;(with_reducible refine(rtake_is (X:=⟨#[44]⟩) TB (yH rfl) _ HE.out.st).mono ?_);rintro e w6 ⟨rfl,s6,g6⟩;have HL6:=yH (HE.out.step g6 s6);have HB6:=yH (HBj.out.grown g6 (fun e=>by injection e;omega));have HX6:=yH (HXj.out.grown g6 (by omega));obtain⟨⟨x0,x1,x2,x3⟩,v0,v1,v2,v3⟩:=HB6.out.four))
    refine wp_region_any (by kernel_rfl) ?_
    change wpAny _ _ _ _ _ _ _ w6.drew
    refine yM [0,2,3,4,5] (by kernel_rfl) (fun _ _ _ _ _=>id) ?_
    iterate 5
     refine yT rfl rfl (by rfl) ?_ ?_ ?_
     rotate_left
     ·intro w';go_simp;try with_reducible rfl
     try simp only[Act.put,yA,yB,yC]
    refine yZ ?_
    refine till_take (i:=1) (v:= ?_) (S:=fun w'=>w'.cell? ⟨gx,3,none⟩=some (.slice Bj j cj)) (some 61) rfl rfl (by kernel_rfl) (by kernel_rfl) (by kernel_rfl) (fun _ _ _ h=>h) (Or.inl ⟨by rfl, ?_⟩) x3 ?_
    rotate_left 1
    ·intro w' hSw;go_simp;try with_reducible rfl
    try simp only[Act.put,yA,yB,yC]
    rcases hbw with ⟨b1,b2,rfl⟩|⟨b1,b2,rfl⟩|⟨b1,rfl⟩
    ·skip
     refine till_one (j:=6) (by kernel_rfl) rfl (fun K hK=> ?_)
     try simp only[yD,yE,yF]
     rw[if_pos (by rfl)]
     go_simp
     refine hK.out _ _ x3 ?_
     clear hK K
     try simp only[Act.put,yA,yB,yC]
     refine till_one (j:=7) (by kernel_rfl) rfl (fun K hK=> ?_)
     try simp only[yD,yE,yF]
     rw[if_pos (by rfl)]
     go_simp
     refine hK.out _ _ x3 ?_
     clear hK K
     try simp only[Act.put,yA,yB,yC]
     refine till_one (j:=8) (by kernel_rfl) rfl (fun K hK=> ?_)
     try simp only[yD,yE,yF]
     rw[if_pos (by rfl)]
     go_simp
     refine hK.out _ _ x3 ?_
     clear hK K
     try simp only[Act.put,yA,yB,yC]
     refine till_one (j:=9) (by kernel_rfl) rfl (fun K hK=> ?_)
     try simp only[yD,yE,yF]
     rw[if_pos (by rfl)]
     go_simp
     refine hK.out _ _ x3 ?_
     clear hK K
     try simp only[Act.put,yA,yB,yC]
     refine till_one (j:=10) (by kernel_rfl) rfl (fun K hK=> ?_)
     try simp only[yD,yE,yF]
     rw[if_pos (by rfl)]
     go_simp
     refine hK.out _ _ x3 ?_
     clear hK K
     try simp only[Act.put,yA,yB,yC]
     refine till_one (j:=11) (by kernel_rfl) rfl (fun K hK=> ?_)
     try simp only[yD,yE,yF]
     rw[if_pos (by rfl)]
     go_simp
     refine hK.out _ _ x3 ?_
     clear hK K
     try simp only[Act.put,yA,yB,yC]
     refine till_one (j:=12) (by kernel_rfl) rfl (fun K hK=> ?_)
     try simp only[yD,yE,yF]
     rw[if_pos (by rfl)]
     go_simp
     have Rd:Rel w6 w6.drew:=by obtain⟨_,a,_⟩:=HL6.out.st;exact a.self.drew
     go_at_call 63
     (with_reducible refine(HEx.out _ _ y s' HY.out _ (HL6.out.st.rel Rd)).mono ?_)
     rintro e w2 ⟨vx,rfl,ex,s2',g2⟩
     have K2:=(HB6.out.rel Rd).grown g2 (fun e=>by injection e;omega)
     have hz2:=g2.size
     have hzd:w6.drew.heap.size=w6.heap.size:=rfl
     have d3:=K2.cell 3
     have e3:=(K2.alloc (.cells #[.int .i64 vx.1,.int .i64 vx.2.1,.string (B vx.2.2.1),.slice vx.2.2.2.1 vx.2.2.2.2.1 vx.2.2.2.2.2] 54)).cell 3
     refine hK.out _ _ d3 ?_
     clear hK K
     try simp only[Act.put,yA,yB,yC]
     refine till_one (j:=13) (by kernel_rfl) rfl (fun K hK=> ?_)
     try simp only[yD,yE,yF]
     go_simp
     refine hK.out _ _ e3 ?_
     clear hK K
     try simp only[Act.put,yA,yB,yC]
     refine till_late (j:=14) (by kernel_rfl) rfl (by kernel_rfl) (fun K hK=> ?_)
     try simp only[yD,yE,yF]
     have hOA:=(show w2.ownsRow (gx+1) 54 4 (.slice Bj j cj) j (cellsEs esj) from by rw[←HLl.out];exact HL6.out.1.own HX6.out (grown_trans (grown_rel (some g) Rd) g2)).alloc (.cells #[.int .i64 vx.1,.int .i64 vx.2.1,.string (B vx.2.2.1),.slice vx.2.2.2.1 vx.2.2.2.2.1 vx.2.2.2.2.2] 54)
     have hgw:gx<w6.heap.size:=HX6.out.lt
     have hb4:gx+1≤(w2.alloc (.cells #[.int .i64 vx.1,.int .i64 vx.2.1,.string (B vx.2.2.1),.slice vx.2.2.2.1 vx.2.2.2.2.1 vx.2.2.2.2.2] 54)).heap.size:=by rw[World.size_alloc];omega
     rw[if_pos (by rfl)]
     refine wp_append_lies _ _ _ _ rfl (gx+1) 54 i0 _ 4 56 Tryz.underlying52 hi hz0 hz1 hz2' rfl (by decide) (.slice Bj j cj) j (cellsEs esj) rfl hOA ⟨w2.heap.size,0,none⟩ 1 1 (cellsE vx) rfl rfl (World.news_of_block (Bk.new w2 54 #[.int .i64 vx.1,.int .i64 vx.2.1,.string (B vx.2.2.1),.slice vx.2.2.2.1 vx.2.2.2.2.1 vx.2.2.2.2.2])) (cellsE_one _) (by decide) (by unfold maxLen;omega) (by omega) hb4 (w2.heap.size+1) (by simp) ?_
     intro g' cap w3' hown3 hgrow hat hlt3
     have K3:=(K2.alloc (.cells #[.int .i64 vx.1,.int .i64 vx.2.1,.string (B vx.2.2.1),.slice vx.2.2.2.1 vx.2.2.2.2.1 vx.2.2.2.2.2] 54)).grown hgrow (fun e=>by have:=(hOA.lt _ e.symm).1;omega)
     have y3:=K3.cell 3
     have u3:=K3.frozen 3
     simp only[List.getElem?_toArray,List.getElem?_cons_succ,List.getElem?_cons_zero] at y3
     refine hK.out _ _ ?_
     clear hK K
     try simp only[Act.put,yA,yB,yC]
     refine till_late (j:=15) (by kernel_rfl) rfl (by kernel_rfl) (fun K hK=> ?_)
     try simp only[yD,yE,yF]
     go_simp
     refine hK.out _ _ ?_
     clear hK K
     try simp only[Act.put,yA,yB,yC]
     refine till_late (j:=16) (by kernel_rfl) rfl (by kernel_rfl) (fun K hK=> ?_)
     try simp only[yD,yE,yF]
     go_simp
     refine hK.out _ _ ?_
     clear hK K
     try simp only[Act.put,yA,yB,yC]
     refine till_done (by kernel_rfl) ?_ _
     have HNx:=yH (Lp.push (x:= .mk k0 0 [] l) (show(Ex.mk k0 0 [] l).l.length=j from HLl.out) HL6.out HX6.out hm9 Rd g2 s2' ex (.cells #[.int .i64 vx.1,.int .i64 vx.2.1,.string (B vx.2.2.1),.slice vx.2.2.2.1 vx.2.2.2.2.1 vx.2.2.2.2.2] 54) hown3 hgrow hat _ rfl)
     go_wp2_with (fail)
     go_roundw
     case rel=>exact⟨j+1,by omega,by go_num,by rw[HNext.out];exact HNx⟩
     case measure=>simp[RowKit.intOf];omega
    ·skip
     refine till_one (j:=6) (by kernel_rfl) rfl (fun K hK=> ?_)
     try simp only[yD,yE,yF]
     rw[if_pos (by rfl)]
     go_simp
     refine hK.out _ _ x3 ?_
     clear hK K
     try simp only[Act.put,yA,yB,yC]
     refine till_one (j:=7) (by kernel_rfl) rfl (fun K hK=> ?_)
     try simp only[yD,yE,yF]
     rw[if_pos (by rfl)]
     go_simp
     refine hK.out _ _ x3 ?_
     clear hK K
     try simp only[Act.put,yA,yB,yC]
     refine till_one (j:=8) (by kernel_rfl) rfl (fun K hK=> ?_)
     try simp only[yD,yE,yF]
     rw[if_pos (by rfl)]
     go_simp
     refine hK.out _ _ x3 ?_
     clear hK K
     try simp only[Act.put,yA,yB,yC]
     refine till_one (j:=9) (by kernel_rfl) rfl (fun K hK=> ?_)
     try simp only[yD,yE,yF]
     rw[if_pos (by rfl)]
     go_simp
     refine hK.out _ _ x3 ?_
     clear hK K
     try simp only[Act.put,yA,yB,yC]
     refine till_one (j:=10) (by kernel_rfl) rfl (fun K hK=> ?_)
     try simp only[yD,yE,yF]
     rw[if_pos (by rfl)]
     go_simp
     refine hK.out _ _ x3 ?_
     clear hK K
     try simp only[Act.put,yA,yB,yC]
     refine till_one (j:=11) (by kernel_rfl) rfl (fun K hK=> ?_)
     try simp only[yD,yE,yF]
     rw[if_pos (by rfl)]
     go_simp
     refine hK.out _ _ x3 ?_
     clear hK K
     try simp only[Act.put,yA,yB,yC]
     refine till_one (j:=12) (by kernel_rfl) rfl (fun K hK=> ?_)
     try simp only[yD,yE,yF]
     rw[if_pos (by rfl)]
     go_simp
     have Rd:Rel w6 w6.drew:=by obtain⟨_,a,_⟩:=HL6.out.st;exact a.self.drew
     go_at_call 63
     (with_reducible refine(HEx.out _ _ y s' HY.out _ (HL6.out.st.rel Rd)).mono ?_)
     rintro e w2 ⟨vx,rfl,ex,s2',g2⟩
     have K2:=(HB6.out.rel Rd).grown g2 (fun e=>by injection e;omega)
     have hz2:=g2.size
     have hzd:w6.drew.heap.size=w6.heap.size:=rfl
     have d3:=K2.cell 3
     have e3:=(K2.alloc (.cells #[.int .i64 vx.1,.int .i64 vx.2.1,.string (B vx.2.2.1),.slice vx.2.2.2.1 vx.2.2.2.2.1 vx.2.2.2.2.2] 54)).cell 3
     refine hK.out _ _ d3 ?_
     clear hK K
     try simp only[Act.put,yA,yB,yC]
     refine till_one (j:=13) (by kernel_rfl) rfl (fun K hK=> ?_)
     try simp only[yD,yE,yF]
     go_simp
     refine hK.out _ _ e3 ?_
     clear hK K
     try simp only[Act.put,yA,yB,yC]
     refine till_late (j:=14) (by kernel_rfl) rfl (by kernel_rfl) (fun K hK=> ?_)
     try simp only[yD,yE,yF]
     have hOA:=(show w2.ownsRow (gx+1) 54 4 (.slice Bj j cj) j (cellsEs esj) from by rw[←HLl.out];exact HL6.out.1.own HX6.out (grown_trans (grown_rel (some g) Rd) g2)).alloc (.cells #[.int .i64 vx.1,.int .i64 vx.2.1,.string (B vx.2.2.1),.slice vx.2.2.2.1 vx.2.2.2.2.1 vx.2.2.2.2.2] 54)
     have hgw:gx<w6.heap.size:=HX6.out.lt
     have hb4:gx+1≤(w2.alloc (.cells #[.int .i64 vx.1,.int .i64 vx.2.1,.string (B vx.2.2.1),.slice vx.2.2.2.1 vx.2.2.2.2.1 vx.2.2.2.2.2] 54)).heap.size:=by rw[World.size_alloc];omega
     rw[if_pos (by rfl)]
     refine wp_append_lies _ _ _ _ rfl (gx+1) 54 i0 _ 4 56 Tryz.underlying52 hi hz0 hz1 hz2' rfl (by decide) (.slice Bj j cj) j (cellsEs esj) rfl hOA ⟨w2.heap.size,0,none⟩ 1 1 (cellsE vx) rfl rfl (World.news_of_block (Bk.new w2 54 #[.int .i64 vx.1,.int .i64 vx.2.1,.string (B vx.2.2.1),.slice vx.2.2.2.1 vx.2.2.2.2.1 vx.2.2.2.2.2])) (cellsE_one _) (by decide) (by unfold maxLen;omega) (by omega) hb4 (w2.heap.size+1) (by simp) ?_
     intro g' cap w3' hown3 hgrow hat hlt3
     have K3:=(K2.alloc (.cells #[.int .i64 vx.1,.int .i64 vx.2.1,.string (B vx.2.2.1),.slice vx.2.2.2.1 vx.2.2.2.2.1 vx.2.2.2.2.2] 54)).grown hgrow (fun e=>by have:=(hOA.lt _ e.symm).1;omega)
     have y3:=K3.cell 3
     have u3:=K3.frozen 3
     simp only[List.getElem?_toArray,List.getElem?_cons_succ,List.getElem?_cons_zero] at y3
     refine hK.out _ _ ?_
     clear hK K
     try simp only[Act.put,yA,yB,yC]
     refine till_late (j:=15) (by kernel_rfl) rfl (by kernel_rfl) (fun K hK=> ?_)
     try simp only[yD,yE,yF]
     go_simp
     refine hK.out _ _ ?_
     clear hK K
     try simp only[Act.put,yA,yB,yC]
     refine till_late (j:=16) (by kernel_rfl) rfl (by kernel_rfl) (fun K hK=> ?_)
     try simp only[yD,yE,yF]
     go_simp
     refine hK.out _ _ ?_
     clear hK K
     try simp only[Act.put,yA,yB,yC]
     refine till_done (by kernel_rfl) ?_ _
     have HNx:=yH (Lp.push (x:= .mk k0 0 [] l) (show(Ex.mk k0 0 [] l).l.length=j from HLl.out) HL6.out HX6.out hm9 Rd g2 s2' ex (.cells #[.int .i64 vx.1,.int .i64 vx.2.1,.string (B vx.2.2.1),.slice vx.2.2.2.1 vx.2.2.2.2.1 vx.2.2.2.2.2] 54) hown3 hgrow hat _ rfl)
     go_wp2_with (fail)
     go_roundw
     case rel=>exact⟨j+1,by omega,by go_num,by rw[HNext.out];exact HNx⟩
     case measure=>simp[RowKit.intOf];omega
    ·skip
     refine till_one (j:=6) (by kernel_rfl) rfl (fun K hK=> ?_)
     try simp only[yD,yE,yF]
     rw[if_pos (by rfl)]
     go_simp
     refine hK.out _ _ x3 ?_
     clear hK K
     try simp only[Act.put,yA,yB,yC]
     refine till_one (j:=7) (by kernel_rfl) rfl (fun K hK=> ?_)
     try simp only[yD,yE,yF]
     rw[if_pos (by rfl)]
     go_simp
     refine hK.out _ _ x3 ?_
     clear hK K
     try simp only[Act.put,yA,yB,yC]
     refine till_one (j:=8) (by kernel_rfl) rfl (fun K hK=> ?_)
     try simp only[yD,yE,yF]
     rw[if_pos (by rfl)]
     go_simp
     refine hK.out _ _ x3 ?_
     clear hK K
     try simp only[Act.put,yA,yB,yC]
     refine till_one (j:=9) (by kernel_rfl) rfl (fun K hK=> ?_)
     try simp only[yD,yE,yF]
     refine unwanted_ite (by rfl) ?_
     refine hK.out _ _ x3 ?_
     clear hK K
     try simp only[Act.put,yA,yB,yC]
     refine till_one (j:=10) (by kernel_rfl) rfl (fun K hK=> ?_)
     try simp only[yD,yE,yF]
     refine unwanted_ite (by rfl) ?_
     refine hK.out _ _ x3 ?_
     clear hK K
     try simp only[Act.put,yA,yB,yC]
     refine till_one (j:=11) (by kernel_rfl) rfl (fun K hK=> ?_)
     try simp only[yD,yE,yF]
     rw[if_pos (by rfl)]
     go_simp
     refine hK.out _ _ x3 ?_
     clear hK K
     try simp only[Act.put,yA,yB,yC]
     refine till_one (j:=12) (by kernel_rfl) rfl (fun K hK=> ?_)
     try simp only[yD,yE,yF]
     rw[if_pos (by rfl)]
     go_simp
     have Rd:Rel w6 w6.drew:=by obtain⟨_,a,_⟩:=HL6.out.st;exact a.self.drew
     go_at_call 63
     (with_reducible refine(HEx.out _ _ y s' HY.out _ (HL6.out.st.rel Rd)).mono ?_)
     rintro e w2 ⟨vx,rfl,ex,s2',g2⟩
     have K2:=(HB6.out.rel Rd).grown g2 (fun e=>by injection e;omega)
     have hz2:=g2.size
     have hzd:w6.drew.heap.size=w6.heap.size:=rfl
     have d3:=K2.cell 3
     have e3:=(K2.alloc (.cells #[.int .i64 vx.1,.int .i64 vx.2.1,.string (B vx.2.2.1),.slice vx.2.2.2.1 vx.2.2.2.2.1 vx.2.2.2.2.2] 54)).cell 3
     refine hK.out _ _ d3 ?_
     clear hK K
     try simp only[Act.put,yA,yB,yC]
     refine till_one (j:=13) (by kernel_rfl) rfl (fun K hK=> ?_)
     try simp only[yD,yE,yF]
     go_simp
     refine hK.out _ _ e3 ?_
     clear hK K
     try simp only[Act.put,yA,yB,yC]
     refine till_late (j:=14) (by kernel_rfl) rfl (by kernel_rfl) (fun K hK=> ?_)
     try simp only[yD,yE,yF]
     have hOA:=(show w2.ownsRow (gx+1) 54 4 (.slice Bj j cj) j (cellsEs esj) from by rw[←HLl.out];exact HL6.out.1.own HX6.out (grown_trans (grown_rel (some g) Rd) g2)).alloc (.cells #[.int .i64 vx.1,.int .i64 vx.2.1,.string (B vx.2.2.1),.slice vx.2.2.2.1 vx.2.2.2.2.1 vx.2.2.2.2.2] 54)
     have hgw:gx<w6.heap.size:=HX6.out.lt
     have hb4:gx+1≤(w2.alloc (.cells #[.int .i64 vx.1,.int .i64 vx.2.1,.string (B vx.2.2.1),.slice vx.2.2.2.1 vx.2.2.2.2.1 vx.2.2.2.2.2] 54)).heap.size:=by rw[World.size_alloc];omega
     rw[if_pos (by rfl)]
     refine wp_append_lies _ _ _ _ rfl (gx+1) 54 i0 _ 4 56 Tryz.underlying52 hi hz0 hz1 hz2' rfl (by decide) (.slice Bj j cj) j (cellsEs esj) rfl hOA ⟨w2.heap.size,0,none⟩ 1 1 (cellsE vx) rfl rfl (World.news_of_block (Bk.new w2 54 #[.int .i64 vx.1,.int .i64 vx.2.1,.string (B vx.2.2.1),.slice vx.2.2.2.1 vx.2.2.2.2.1 vx.2.2.2.2.2])) (cellsE_one _) (by decide) (by unfold maxLen;omega) (by omega) hb4 (w2.heap.size+1) (by simp) ?_
     intro g' cap w3' hown3 hgrow hat hlt3
     have K3:=(K2.alloc (.cells #[.int .i64 vx.1,.int .i64 vx.2.1,.string (B vx.2.2.1),.slice vx.2.2.2.1 vx.2.2.2.2.1 vx.2.2.2.2.2] 54)).grown hgrow (fun e=>by have:=(hOA.lt _ e.symm).1;omega)
     have y3:=K3.cell 3
     have u3:=K3.frozen 3
     simp only[List.getElem?_toArray,List.getElem?_cons_succ,List.getElem?_cons_zero] at y3
     refine hK.out _ _ ?_
     clear hK K
     try simp only[Act.put,yA,yB,yC]
     refine till_late (j:=15) (by kernel_rfl) rfl (by kernel_rfl) (fun K hK=> ?_)
     try simp only[yD,yE,yF]
     go_simp
     refine hK.out _ _ ?_
     clear hK K
     try simp only[Act.put,yA,yB,yC]
     refine till_late (j:=16) (by kernel_rfl) rfl (by kernel_rfl) (fun K hK=> ?_)
     try simp only[yD,yE,yF]
     go_simp
     refine hK.out _ _ ?_
     clear hK K
     try simp only[Act.put,yA,yB,yC]
     refine till_done (by kernel_rfl) ?_ _
     have HNx:=yH (Lp.push (x:= .mk k0 0 [] l) (show(Ex.mk k0 0 [] l).l.length=j from HLl.out) HL6.out HX6.out hm9 Rd g2 s2' ex (.cells #[.int .i64 vx.1,.int .i64 vx.2.1,.string (B vx.2.2.1),.slice vx.2.2.2.1 vx.2.2.2.2.1 vx.2.2.2.2.2] 54) hown3 hgrow hat _ rfl)
     go_wp2_with (fail)
     go_roundw
     case rel=>exact⟨j+1,by omega,by go_num,by rw[HNext.out];exact HNx⟩
     case measure=>simp[RowKit.intOf];omega
  ·obtain rfl:j=m:=by omega
   rw[H3.out] at HE
   simp only at HE
   have hl3:l3.length=j:=by have:=upto_lenR (exprR d) k0 s2 j;rw[H3.out] at this;exact this
   have HL3:=yH hl3
   obtain⟨Bj,cj,esj,hbj,_⟩:=HE.out.1.box
   have hbj:Bk wr gx 54 #[.int .i64 k0,.int .i64 0,.string ⟨#[]⟩,.slice Bj j cj]:=by rw[←HL3.out];exact hbj
   obtain⟨⟨c0,c1,c2,c3⟩,f0,f1,f2,f3⟩:=hbj.four
   clear hbj hl3
   have hhd:=HE.out.st.head
   rcases HQ.out with rfl|rfl|rfl|rfl|⟨a1,a2,a3,a4,z1,z2,z3,z4⟩
   ·skip
    obtain⟨gT,off,ji,rfl,hji,⟨lk0,lk1⟩,lk2,lk3⟩:=HE.out.st.look
    obtain⟨nm,hnm⟩:∃nm,(hdT s3.1).2.1=nm:=⟨_,rfl⟩
    have hnl:nm.length≤100:=by rw[←hnm];exact hhd.2.2.1
    rw[hnm] at lk2
    obtain⟨bn,hbn⟩:∃bn,isName nm=bn:=⟨_,rfl⟩
    have HBn:=yH hbn
    obtain⟨W7,hW7⟩:∃W,(wr.setCell ⟨gx,2,none⟩ (.string (B nm))).drew=W:=⟨_,rfl⟩
    have HL7:=yH (show Lp V _ c all w W7 g w.heap.size gx (.mk 3 0 nm l3) s3 from by rw[←hW7];exact(HE.out.set (y:= .mk 3 0 nm l3) 2 (.string (B nm)) (fun _ _ _=>rfl) rfl HNi.out HZi.out hnl).drew)
    obtain⟨sw,hsw⟩:∃sw,(if isName nm then s3 else wrongR 80 s3)=sw:=⟨_,rfl⟩
    obtain⟨⟨tn,sn⟩,hn⟩:∃p,takeR 1 [] sw=p:=⟨_,rfl⟩
    have HRe:=yH (show restR 3 s3=((0,nm),sn) by unfold restR;rw[if_pos rfl,hnm,hsw,hn])
    have TN:=yH hn
    obtain⟨⟨te,se⟩,he⟩:∃p,takeR 4 [41] sn=p:=⟨_,rfl⟩
    have TE:=yH he
    have HSw:=yH hsw
    clear hn he hsw hhd
    have hjl:((ji:Int)<(all.length:Int)):=by omega
    obtain⟨⟨B7,c7,x0,x1,x2,x3⟩,R7⟩:=HL7.out.cells
    simp only[Ex.k,Ex.n,Ex.nm] at x0 x1 x2 x3
    go_wp2_with (go_at_call 50;(with_reducible refine(args_as _ (j:Int) HM _).mono ?_);rintro e w' ⟨rfl,rfl⟩)
    go_still_tail 11,(by kernel_rfl)
    cases bn
    ·skip
     rw[if_neg (by rw[HBn.out];decide)] at HSw
     go_wp2_with (first|(go_at_call 57;(with_reducible refine(name_is nm _ HBn hnl _ R7).mono ?_);rintro e w6 ⟨rfl,r6⟩;have HL8:=yH (HL7.out.rel r6))|(go_at_call 72;(with_reducible refine(rwrong_is HSw _ HL8.out.st).mono ?_);rintro e w8 ⟨rfl,s8,g8,z8⟩;have HLa:=yH (HL8.out.step g8 s8))|(go_at_call 64;(with_reducible refine(rtake_is (X:=⟨#[]⟩) TN (yH rfl) _ HLa.out.st).mono ?_);rintro e wa ⟨rfl,sa,ga⟩;have HLb:=yH (HLa.out.step ga sa))|(go_at_call 64;(with_reducible refine(rtake_is (X:=⟨#[41]⟩) TE (yH rfl) _ HLb.out.st).mono ?_);rintro e w9 ⟨rfl,s9,g9⟩;obtain⟨vz,⟨y0,y1,y2,y3⟩,hz⟩:=(HLb.out.step g9 s9).done hVw;have HZ:=yH hz;clear hz;obtain⟨⟨n0,n1,n2,n3⟩,m0,m1,m2,m3⟩:=((HLb.out.step g9 s9).2.1).four))
     obtain⟨⟨o0,o1,o2,o3⟩,hex,hst,hgr⟩:=HZ.out _ rfl
     refine bodyPost_ret (v:=EV vz) (by simp[results,Tryz.results63,go_sem,o0,o1,o2,o3]) rfl ⟨_,rfl, ?_, ?_,hgr⟩
     ·rw[HF.out,HRe.out];exact hex
     ·rw[HF.out,HRe.out];simp only;rw[TE.out];exact hst
    ·skip
     rw[if_pos HBn.out] at HSw
     have e:=HSw.out
     subst e
     go_wp2_with (first|(go_at_call 57;(with_reducible refine(name_is nm _ HBn hnl _ R7).mono ?_);rintro e w6 ⟨rfl,r6⟩;have HL8:=yH (HL7.out.rel r6))|(go_at_call 64;(with_reducible refine(rtake_is (X:=⟨#[]⟩) TN (yH rfl) _ HL8.out.st).mono ?_);rintro e wa ⟨rfl,sa,ga⟩;have HLb:=yH (HL8.out.step ga sa))|(go_at_call 64;(with_reducible refine(rtake_is (X:=⟨#[41]⟩) TE (yH rfl) _ HLb.out.st).mono ?_);rintro e w9 ⟨rfl,s9,g9⟩;obtain⟨vz,⟨y0,y1,y2,y3⟩,hz⟩:=(HLb.out.step g9 s9).done hVw;have HZ:=yH hz;clear hz;obtain⟨⟨n0,n1,n2,n3⟩,m0,m1,m2,m3⟩:=((HLb.out.step g9 s9).2.1).four))
     obtain⟨⟨o0,o1,o2,o3⟩,hex,hst,hgr⟩:=HZ.out _ rfl
     refine bodyPost_ret (v:=EV vz) (by simp[results,Tryz.results63,go_sem,o0,o1,o2,o3]) rfl ⟨_,rfl, ?_, ?_,hgr⟩
     ·rw[HF.out,HRe.out];exact hex
     ·rw[HF.out,HRe.out];simp only;rw[TE.out];exact hst
   ·skip
    obtain⟨⟨ta,sa⟩,ha⟩:∃p,takeR 4 [44] s3=p:=⟨_,rfl⟩
    obtain⟨⟨tn,sn⟩,hn⟩:∃p,takeR 3 [] sa=p:=⟨_,rfl⟩
    have TA:=yH ha
    have TN:=yH hn
    have HRe:=yH (show restR 5 s3=((tn.2.2.1,[]),sn) by unfold restR;simp only[show ¬((5:Int)=3) by decide,show((5:Int)=5)=True by simp,show((5:Int)=6)=False by simp,if_true,if_false,ha,hn])
    obtain⟨⟨te,se⟩,he⟩:∃p,takeR 4 [41] sn=p:=⟨_,rfl⟩
    have TE:=yH he
    have hfd:∀w:World,(Instr.field 87 (.agg #[.int .i64 tn.1,.string (B tn.2.1),.int .i64 tn.2.2.1,.int .i64 tn.2.2.2]) 2).run Tryz.prog w= .ok (.int .i64 tn.2.2.1) w:=fun _=>by kernel_rfl
    clear he ha hn
    go_wp2_with (first|(go_at_call 50;(with_reducible refine(args_as _ (j:Int) HM _).mono ?_);rintro e w' ⟨rfl,rfl⟩)|(go_at_call 64;(with_reducible refine(rtake_is (X:=⟨#[44]⟩) TA (yH rfl) _ HE.out.st).mono ?_);rintro e w6 ⟨rfl,s6,g6⟩;have HL6:=yH (HE.out.step g6 s6))|(go_at_call 64;(with_reducible refine(rtake_is (X:=⟨#[]⟩) TN (yH rfl) _ HL6.out.st).mono ?_);rintro e w7 ⟨rfl,s7,g7⟩;have HL7:=yH (HL6.out.step g7 s7);obtain⟨B7,c7,es7,hb7,_⟩:=HL7.out.1.box;obtain⟨⟨x0,x1,x2,x3⟩,u0,u1,u2,u3⟩:=hb7.four;clear hb7;have HTn:=yH (take_num TN.out HL6.out.st);have HL8:=yH (HL7.out.set (y:= .mk 5 tn.2.2.1 [] l3) 1 (.int .i64 tn.2.2.1) (fun _ _ _=>rfl) rfl HNi.out HTn.out (by simp[Ex.nm])))|(go_at_call 64;(with_reducible refine(rtake_is (X:=⟨#[41]⟩) TE (yH rfl) _ HL8.out.st).mono ?_);rintro e w9 ⟨rfl,s9,g9⟩;obtain⟨vz,⟨y0,y1,y2,y3⟩,hz⟩:=(HL8.out.step g9 s9).done hVw;have HZ:=yH hz;clear hz;obtain⟨⟨n0,n1,n2,n3⟩,m0,m1,m2,m3⟩:=((HL8.out.step g9 s9).2.1).four))
    obtain⟨⟨o0,o1,o2,o3⟩,hex,hst,hgr⟩:=HZ.out _ rfl
    refine bodyPost_ret (v:=EV vz) (by simp[results,Tryz.results63,go_sem,o0,o1,o2,o3]) rfl ⟨_,rfl, ?_, ?_,hgr⟩
    ·rw[HF.out,HRe.out];exact hex
    ·rw[HF.out,HRe.out];simp only;rw[TE.out];exact hst
   ·skip
    obtain⟨⟨ta,sa⟩,ha⟩:∃p,takeR 4 [44] s3=p:=⟨_,rfl⟩
    obtain⟨⟨tn,sn⟩,hn⟩:∃p,takeR 2 [] sa=p:=⟨_,rfl⟩
    have TA:=yH ha
    have TN:=yH hn
    have HRe:=yH (show restR 6 s3=((tn.2.2.1,[]),sn) by unfold restR;simp only[show ¬((6:Int)=3) by decide,show((6:Int)=5)=False by simp,show((6:Int)=6)=True by simp,if_true,if_false,ha,hn])
    obtain⟨⟨te,se⟩,he⟩:∃p,takeR 4 [41] sn=p:=⟨_,rfl⟩
    have TE:=yH he
    have hfd:∀w:World,(Instr.field 87 (.agg #[.int .i64 tn.1,.string (B tn.2.1),.int .i64 tn.2.2.1,.int .i64 tn.2.2.2]) 2).run Tryz.prog w= .ok (.int .i64 tn.2.2.1) w:=fun _=>by kernel_rfl
    clear he ha hn
    go_wp2_with (first|(go_at_call 50;(with_reducible refine(args_as _ (j:Int) HM _).mono ?_);rintro e w' ⟨rfl,rfl⟩)|(go_at_call 64;(with_reducible refine(rtake_is (X:=⟨#[44]⟩) TA (yH rfl) _ HE.out.st).mono ?_);rintro e w6 ⟨rfl,s6,g6⟩;have HL6:=yH (HE.out.step g6 s6))|(go_at_call 64;(with_reducible refine(rtake_is (X:=⟨#[]⟩) TN (yH rfl) _ HL6.out.st).mono ?_);rintro e w7 ⟨rfl,s7,g7⟩;have HL7:=yH (HL6.out.step g7 s7);obtain⟨B7,c7,es7,hb7,_⟩:=HL7.out.1.box;obtain⟨⟨x0,x1,x2,x3⟩,u0,u1,u2,u3⟩:=hb7.four;clear hb7;have HTn:=yH (take_num TN.out HL6.out.st);have HL8:=yH (HL7.out.set (y:= .mk 6 tn.2.2.1 [] l3) 1 (.int .i64 tn.2.2.1) (fun _ _ _=>rfl) rfl HNi.out HTn.out (by simp[Ex.nm])))|(go_at_call 64;(with_reducible refine(rtake_is (X:=⟨#[41]⟩) TE (yH rfl) _ HL8.out.st).mono ?_);rintro e w9 ⟨rfl,s9,g9⟩;obtain⟨vz,⟨y0,y1,y2,y3⟩,hz⟩:=(HL8.out.step g9 s9).done hVw;have HZ:=yH hz;clear hz;obtain⟨⟨n0,n1,n2,n3⟩,m0,m1,m2,m3⟩:=((HL8.out.step g9 s9).2.1).four))
    obtain⟨⟨o0,o1,o2,o3⟩,hex,hst,hgr⟩:=HZ.out _ rfl
    refine bodyPost_ret (v:=EV vz) (by simp[results,Tryz.results63,go_sem,o0,o1,o2,o3]) rfl ⟨_,rfl, ?_, ?_,hgr⟩
    ·rw[HF.out,HRe.out];exact hex
    ·rw[HF.out,HRe.out];simp only;rw[TE.out];exact hst
   ·skip
    obtain⟨gT,off,ji,rfl,hji,⟨lk0,lk1⟩,lk2,lk3⟩:=HE.out.st.look
    obtain⟨N,hN⟩:∃N,(hdT s3.1).2.2.1=N:=⟨_,rfl⟩
    have hNi:i64 N:=by rw[←hN];exact hhd.2.1
    rw[hN] at lk3
    obtain⟨W7,hW7⟩:∃W,(wr.setCell ⟨gx,1,none⟩ (.int .i64 N)).drew=W:=⟨_,rfl⟩
    have HL7:=yH (show Lp V _ c all w W7 g w.heap.size gx (.mk 11 N [] l3) s3 from by rw[←hW7];exact(HE.out.set (y:= .mk 11 N [] l3) 1 (.int .i64 N) (fun _ _ _=>rfl) rfl HNi.out hNi (by simp[Ex.nm])).drew)
    obtain⟨sw,hsw⟩:∃sw,(if N≤1000 then s3 else wrongR 80 s3)=sw:=⟨_,rfl⟩
    obtain⟨⟨tn,sn⟩,hn⟩:∃p,takeR 2 [] sw=p:=⟨_,rfl⟩
    have HRe:=yH (show restR 11 s3=((N,[]),sn) by unfold restR;rw[if_neg (by decide),if_neg (by decide),if_neg (by decide),if_pos rfl,hN,hsw,hn])
    have TN:=yH hn
    obtain⟨⟨te,se⟩,he⟩:∃p,takeR 4 [41] sn=p:=⟨_,rfl⟩
    have TE:=yH he
    have HSw:=yH hsw
    clear hn he hsw hhd
    have hjl:((ji:Int)<(all.length:Int)):=by omega
    obtain⟨⟨B7,c7,x0,x1,x2,x3⟩,R7⟩:=HL7.out.cells
    simp only[Ex.k,Ex.n,Ex.nm] at x0 x1 x2 x3
    go_wp2_with (go_at_call 50;(with_reducible refine(args_as _ (j:Int) HM _).mono ?_);rintro e w' ⟨rfl,rfl⟩)
    go_still_tail 11,(by kernel_rfl)
    by_cases hN1:N≤1000
    ·skip
     rw[if_pos hN1] at HSw
     have e:=HSw.out
     subst e
     have hgt: ¬(1000<N):=by omega
     clear hN1
     go_wp2_with (first|(go_at_call 64;(with_reducible refine(rtake_is (X:=⟨#[]⟩) TN (yH rfl) _ HL7.out.st).mono ?_);rintro e wa ⟨rfl,sa,ga⟩;have HLb:=yH (HL7.out.step ga sa))|(go_at_call 64;(with_reducible refine(rtake_is (X:=⟨#[41]⟩) TE (yH rfl) _ HLb.out.st).mono ?_);rintro e w9 ⟨rfl,s9,g9⟩;obtain⟨vz,⟨y0,y1,y2,y3⟩,hz⟩:=(HLb.out.step g9 s9).done hVw;have HZ:=yH hz;clear hz;obtain⟨⟨n0,n1,n2,n3⟩,m0,m1,m2,m3⟩:=((HLb.out.step g9 s9).2.1).four))
     obtain⟨⟨o0,o1,o2,o3⟩,hex,hst,hgr⟩:=HZ.out _ rfl
     refine bodyPost_ret (v:=EV vz) (by simp[results,Tryz.results63,go_sem,o0,o1,o2,o3]) rfl ⟨_,rfl, ?_, ?_,hgr⟩
     ·rw[HF.out,HRe.out];exact hex
     ·rw[HF.out,HRe.out];simp only;rw[TE.out];exact hst
    ·skip
     rw[if_neg hN1] at HSw
     have hgt:1000<N:=by omega
     clear hN1
     go_wp2_with (first|(go_at_call 72;(with_reducible refine(rwrong_is HSw _ HL7.out.st).mono ?_);rintro e w8 ⟨rfl,s8,g8,z8⟩;have HLa:=yH (HL7.out.step g8 s8))|(go_at_call 64;(with_reducible refine(rtake_is (X:=⟨#[]⟩) TN (yH rfl) _ HLa.out.st).mono ?_);rintro e wa ⟨rfl,sa,ga⟩;have HLb:=yH (HLa.out.step ga sa))|(go_at_call 64;(with_reducible refine(rtake_is (X:=⟨#[41]⟩) TE (yH rfl) _ HLb.out.st).mono ?_);rintro e w9 ⟨rfl,s9,g9⟩;obtain⟨vz,⟨y0,y1,y2,y3⟩,hz⟩:=(HLb.out.step g9 s9).done hVw;have HZ:=yH hz;clear hz;obtain⟨⟨n0,n1,n2,n3⟩,m0,m1,m2,m3⟩:=((HLb.out.step g9 s9).2.1).four))
     obtain⟨⟨o0,o1,o2,o3⟩,hex,hst,hgr⟩:=HZ.out _ rfl
     refine bodyPost_ret (v:=EV vz) (by simp[results,Tryz.results63,go_sem,o0,o1,o2,o3]) rfl ⟨_,rfl, ?_, ?_,hgr⟩
     ·rw[HF.out,HRe.out];exact hex
     ·rw[HF.out,HRe.out];simp only;rw[TE.out];exact hst
   ·skip
    have HRe:=yH (show restR k0 s3=((0,[]),s3) by unfold restR;rw[if_neg z1,if_neg z2,if_neg z3,if_neg z4])
    obtain⟨⟨te,se⟩,he⟩:∃p,takeR 4 [41] s3=p:=⟨_,rfl⟩
    have TE:=yH he
    clear he
    go_wp2_with (first|(go_at_call 50;(with_reducible refine(args_as _ (j:Int) HM _).mono ?_);rintro e w' ⟨rfl,rfl⟩)|(go_at_call 64;(with_reducible refine(rtake_is (X:=⟨#[41]⟩) TE (yH rfl) _ HE.out.st).mono ?_);rintro e w9 ⟨rfl,s9,g9⟩;obtain⟨vz,⟨y0,y1,y2,y3⟩,hz⟩:=(HE.out.step g9 s9).done hVw;have HZ:=yH hz;clear hz;obtain⟨⟨n0,n1,n2,n3⟩,m0,m1,m2,m3⟩:=((HE.out.step g9 s9).2.1).four))
    obtain⟨⟨o0,o1,o2,o3⟩,hex,hst,hgr⟩:=HZ.out _ rfl
    refine bodyPost_ret (v:=EV vz) (by simp[results,Tryz.results63,go_sem,o0,o1,o2,o3]) rfl ⟨_,rfl, ?_, ?_,hgr⟩
    ·rw[HF.out,HRe.out];exact hex
    ·rw[HF.out,HRe.out];simp only;rw[TE.out];exact hst
end Go.Proofs.YtjhjdiaomnpkmaaGreatDoor
