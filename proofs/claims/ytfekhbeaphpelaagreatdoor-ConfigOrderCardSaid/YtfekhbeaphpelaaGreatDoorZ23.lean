/- Plain mathematics of layer 11: what is compiled tells what the strategy tells. No program in this text; Plain mathematics of layer 11: what the laws say of code. No program in this text; What the laws of layer 11 lean on: what the program is asked, and the law's awake; The landed operation's fits, by what an operation has; What the landed Right tells; The landed value code: an amount told, made sure, less, cut; Numbers in rising order: what the library's sort leaves in a row of one's own; The landed value code: a seller's price; the price at a place in rising order; The landed value code: the price at a place in rising order; The landed value code: a part cut off; both of two, the lesser and the greater one, the first or else the second one; The landed value code: what an expression tells, kind by kind; The landed value code: what any expression tells, and any condition; The landed value code: a reckoning, and the error that ends one. -/

import Derived.Test.YtfekhbeaphpelaaGreatDoorZ22
set_option maxRecDepth 100000
set_option maxHeartbeats 8000000
namespace Go.Proofs.YtfekhbeaphpelaaGreatDoor
open Go.Lib
set_option linter.unusedVariables false
set_option linter.unusedSimpArgs false
def Lies(c:List In)(p:Nat)(s:List In):Prop:=∀i (h:i<s.length),c[p+i]?=some s[i]
theorem Lies.left{c:List In}{p:Nat}{a b:List In}(h:Lies c p (a++b)):Lies c p a:=fun i hi=>by
 rw[h i (by rw[List.length_append];omega),List.getElem_append_left hi]
theorem Lies.right{c:List In}{p:Nat}{a b:List In}(h:Lies c p (a++b)){n:Nat}(hn:a.length=n):Lies c (p+n) b:=fun i hi=>by
 subst hn
 rw[Nat.add_assoc,h (a.length+i) (by rw[List.length_append];omega),List.getElem_append_right (by omega)]
 simp
theorem Lies.head{c:List In}{p:Nat}{x:In}{b:List In}(h:Lies c p (x::b)):c[p]?=some x:=by
 have:=h 0 (by simp)
 simpa using this
theorem Lies.tail{c:List In}{p:Nat}{x:In}{b:List In}(h:Lies c p (x::b)):Lies c (p+1) b:=fun i hi=>by
 have:=h (i+1) (by simpa using hi)
 rw[Nat.add_assoc,Nat.add_comm 1 i,this];rfl
theorem lies_all(c:List In):Lies c 0 c:=fun i hi=>by rw[Nat.zero_add,List.getElem?_eq_getElem hi]
def SegOk(l:List Of)(c:List In)(p q:Nat)(S:List Ce)(v:Ce):Prop:=∀n,∃n',goM l c p (S,0) n=goM l c q (S++[v],0) n'
def SegBad(l:List Of)(c:List In)(p:Nat)(S:List Ce)(e:Int):Prop:=e≠0∧∀n,∃S' n',goM l c p (S,0) n=((S',e),n')
def Seg(l:List Of)(c:List In)(p q:Nat)(S:List Ce)(r:Rs):Prop:=match r with
 | .ok v=>SegOk l c p q S v
 | .error e=>SegBad l c p S e
def bindR(r:Rs)(F:Ce→Rs):Rs:=match r with| .error e=> .error e| .ok v=>F v
theorem bind_ok(v:Ce)(F:Ce→Rs):bindR (.ok v) F=F v:=rfl
section
variable {l:List Of} {c:List In} (hf:Fwd c)
include hf
theorem seg_put{p:Nat}{x:In}{S:List Ce}{v:Ce}(hx:c[p]?=some x)(hS:S.length<100)(h:stepM l x p (S,0)=(p+1,putM (S,0) v)):Seg l c p (p+1) S (.ok v):=fun n=>
 ⟨n+1,by rw[go_step hf hx,h,put_room hS]⟩
theorem seg_one{p q:Nat}{x:In}{S:List Ce}{r:Rs}{F:Ce→Rs}(hS:S.length<100)(h1:Seg l c p q S r)(hx:c[q]?=some x)
  (h:∀v,(∀w,F v= .ok w→stepM l x q (S++[v],0)=(q+1,putM (S,0) w))∧(∀e,F v= .error e→e≠0∧∃S',stepM l x q (S++[v],0)=(q+1,(S',e)))):
  Seg l c p (q+1) S (bindR r F):=by
 cases r with
 |error e=>exact h1
 |ok v=>
  have h1:SegOk l c p q S v:=h1
  obtain⟨ha,hb⟩:=h v
  rw[bind_ok]
  cases hF:F v with
  |ok w=>
   intro n
   obtain⟨n1,e1⟩:=h1 n
   exact⟨n1+1,by rw[e1,go_step hf hx,ha w hF,put_room hS]⟩
  |error e=>
   obtain⟨he,S',hs⟩:=hb e hF
   refine⟨he,fun n=> ?_⟩
   obtain⟨n1,e1⟩:=h1 n
   exact⟨S',n1+1,by rw[e1,go_step hf hx,hs,go_err _ _ _ _ _ he]⟩
theorem seg_two{p q t:Nat}{x:In}{S:List Ce}{r r':Rs}{F:Ce→Ce→Ce}(hS:S.length<99)(h1:Seg l c p q S r)(h2:∀v,r= .ok v→Seg l c q t (S++[v]) r')(hx:c[t]?=some x)
  (h:∀a b,stepM l x t (S++[a]++[b],0)=(t+1,putM (S,0) (F a b))):
  Seg l c p (t+1) S (bindR r fun a=>bindR r' fun b=> .ok (F a b)):=by
 cases r with
 |error e=>exact h1
 |ok a=>
  have h1:SegOk l c p q S a:=h1
  have h2:=h2 a rfl
  cases r' with
  |error e=>
   obtain⟨he,h2⟩:=h2
   refine⟨he,fun n=> ?_⟩
   obtain⟨n1,e1⟩:=h1 n
   obtain⟨S',n2,e2⟩:=h2 n1
   exact⟨S',n2,by rw[e1,e2]⟩
  |ok b=>
   have h2:SegOk l c q t (S++[a]) b:=h2
   intro n
   obtain⟨n1,e1⟩:=h1 n
   obtain⟨n2,e2⟩:=h2 n1
   exact⟨n2+1,by rw[e1,e2,go_step hf hx,h,put_room (by omega)]⟩
end
theorem step_two{l:List Of}{o n:Int}{nm:List UInt8}{t:Nat}{S:List Ce}(ho:o=7∨o=8∨o=11)(a b:Ce):stepM l (o,n,nm) t (S++[a]++[b],0)=(t+1,putM (S,0) (twoC o a b)):=by
 have e:twoM o (S++[a]++[b],0)=putM (S,0) (twoC o a b):=by unfold twoM;rw[take_last];simp only;rw[take_last]
 rcases ho with rfl|rfl|rfl<;>exact congrArg (Prod.mk (t+1)) e
theorem step_less{l:List Of}{n:Int}{nm:List UInt8}{t:Nat}{S:List Ce}(v:Ce):stepM l (5,n,nm) t (S++[v],0)=(t+1,minusM (S,0) v (fun u=>subR u n)):=by
 have e:stepM l (5,n,nm) t (S++[v],0)=(t+1,minusM (takeM (S++[v],0)).2 (takeM (S++[v],0)).1 (fun u=>subR u n)):=rfl
 rw[e,take_last]
theorem step_cut{l:List Of}{n:Int}{nm:List UInt8}{t:Nat}{S:List Ce}(v:Ce):stepM l (6,n,nm) t (S++[v],0)=(t+1,minusM (S,0) v (fun u=>cutR u n)):=by
 have e:stepM l (6,n,nm) t (S++[v],0)=(t+1,minusM (takeM (S++[v],0)).2 (takeM (S++[v],0)).1 (fun u=>cutR u n)):=rfl
 rw[e,take_last]
def mapR(f:Int→Rs)(v:Ce):Rs:=match v with|none=> .ok none|some u=>f u
theorem minus_ways{f:Int→Rs}(hf:∀u e,f u= .error e→e=10)(S:List Ce)(v:Ce):
  (∀w,mapR f v= .ok w→minusM (S,0) v f=putM (S,0) w)∧(∀e,mapR f v= .error e→e≠0∧∃S',minusM (S,0) v f=(S',e)):=by
 cases v with
 |none=>exact⟨fun w h=>(by injection h with h;subst h;rfl),fun e h=>by cases h⟩
 |some u=>exact⟨fun w h=>minus_ok h,fun e h=>⟨by have:=hf u e h;omega,S,minus_bad h⟩⟩
theorem step_else{l:List Of}{n:Int}{nm:List UInt8}{t:Nat}{S:List Ce}(hS:S.length<100)(v:Ce):stepM l (9,n,nm) t (S++[v],0)=(match v with|some u=>(n.toNat,(S++[some u],0))|none=>(t+1,(S,0))):=by
 have e:stepM l (9,n,nm) t (S++[v],0)=(match (takeM (S++[v],0)).1 with|some u=>(n.toNat,putM (takeM (S++[v],0)).2 (some u))|none=>(t+1,(takeM (S++[v],0)).2)):=rfl
 rw[e,take_last]
 cases v with
 |none=>rfl
 |some u=>simp only;rw[put_room hS]
theorem step_unless{l:List Of}{n:Int}{nm:List UInt8}{t:Nat}{S:List Ce}(b:Bool):stepM l (12,n,nm) t (S++[some (if b then 1 else 0)],0)=(if b then t+1 else n.toNat,(S,0)):=by
 have e:stepM l (12,n,nm) t (S++[some (if b then 1 else 0)],0)=(match (takeM (S++[some (if b then 1 else 0)],0)).1 with|some v=>if v=0 then (n.toNat,(takeM (S++[some (if b then 1 else 0)],0)).2) else (t+1,(takeM (S++[some (if b then 1 else 0)],0)).2)|none=>(n.toNat,(takeM (S++[some (if b then 1 else 0)],0)).2)):=rfl
 rw[e,take_last]
 cases b<;>rfl
theorem step_jump{l:List Of}{n:Int}{nm:List UInt8}{t:Nat}(s:Ms):stepM l (13,n,nm) t s=(n.toNat,s):=rfl
def orR(r r':Rs):Rs:=bindR r fun v=>match v with|some u=> .ok (some u)|none=>r'
def boolR(r:Except Int Bool):Rs:=match r with| .error e=> .error e| .ok b=> .ok (some (if b then 1 else 0))
def anyR(l:List Of)(d:Nat)(x:Ex):Rs:=if isCond x.k then boolR (condN l d x) else toldN l d x
theorem anyR_cond{l:List Of}{d:Nat}{x:Ex}(h:isCond x.k=true):anyR l d x=boolR (condN l d x):=by unfold anyR;rw[if_pos h]
theorem anyR_told{l:List Of}{d:Nat}{x:Ex}(h:isCond x.k=false):anyR l d x=toldN l d x:=by unfold anyR;rw[h];rfl
def ifR(r:Except Int Bool)(a b:Rs):Rs:=match r with| .error e=> .error e| .ok true=>a| .ok false=>b
theorem seg_else{l:List Of}{c:List In}(hf:Fwd c){p q t:Nat}{n:Int}{nm:List UInt8}{S:List Ce}{r r':Rs}(hS:S.length<100)(h1:Seg l c p q S r)(hx:c[q]?=some (9,n,nm))(hn:n.toNat=t)(h2:Seg l c (q+1) t S r'):Seg l c p t S (orR r r'):=by
 subst hn
 cases r with
 |error e=>exact h1
 |ok v=>
  have h1:SegOk l c p q S v:=h1
  cases v with
  |some u=>
   intro n0
   obtain⟨n1,e1⟩:=h1 n0
   exact⟨n1+1,by rw[e1,go_step hf hx,step_else hS]⟩
  |none=>
   show Seg l c p n.toNat S r'
   cases r' with
   |error e=>
    obtain⟨he,h2⟩:=h2
    refine⟨he,fun n0=> ?_⟩
    obtain⟨n1,e1⟩:=h1 n0
    obtain⟨S',n2,e2⟩:=h2 (n1+1)
    exact⟨S',n2,by rw[e1,go_step hf hx,step_else hS];exact e2⟩
   |ok w=>
    intro n0
    obtain⟨n1,e1⟩:=h1 n0
    obtain⟨n2,e2⟩:=(h2:SegOk l c (q+1) n.toNat S w) (n1+1)
    exact⟨n2,by rw[e1,go_step hf hx,step_else hS];exact e2⟩
theorem seg_if{l:List Of}{c:List In}(hf:Fwd c){p q u t z:Nat}{n n':Int}{nm nm':List UInt8}{S:List Ce}{rc:Except Int Bool}{ra rb:Rs}(h1:Seg l c p q S (boolR rc))(hx:c[q]?=some (12,n,nm))(hn:n.toNat=u)
  (ha:Seg l c (q+1) t S ra) (hj:c[t]?=some (13,n',nm')) (hn':n'.toNat=z) (hb:Seg l c u z S rb):Seg l c p z S (ifR rc ra rb):=by
 subst hn hn'
 cases rc with
 |error e=>exact h1
 |ok b=>
  have h1:SegOk l c p q S (some (if b then 1 else 0)):=h1
  cases b with
  |false=>
   show Seg l c p n'.toNat S rb
   cases rb with
   |error e=>
    obtain⟨he,h2⟩:=hb
    refine⟨he,fun n0=> ?_⟩
    obtain⟨n1,e1⟩:=h1 n0
    obtain⟨S',n2,e2⟩:=h2 (n1+1)
    exact⟨S',n2,by rw[e1,go_step hf hx,step_unless];exact e2⟩
   |ok w=>
    intro n0
    obtain⟨n1,e1⟩:=h1 n0
    obtain⟨n2,e2⟩:=(hb:SegOk l c n.toNat n'.toNat S w) (n1+1)
    exact⟨n2,by rw[e1,go_step hf hx,step_unless];exact e2⟩
  |true=>
   show Seg l c p n'.toNat S ra
   cases ra with
   |error e=>
    obtain⟨he,h2⟩:=ha
    refine⟨he,fun n0=> ?_⟩
    obtain⟨n1,e1⟩:=h1 n0
    obtain⟨S',n2,e2⟩:=h2 (n1+1)
    exact⟨S',n2,by rw[e1,go_step hf hx,step_unless];exact e2⟩
   |ok w=>
    intro n0
    obtain⟨n1,e1⟩:=h1 n0
    obtain⟨n2,e2⟩:=(ha:SegOk l c (q+1) t S w) (n1+1)
    exact⟨n2+1,by rw[e1,go_step hf hx,step_unless];simp only[if_true];rw[e2,go_step hf hj,step_jump]⟩
theorem list1{xs:List Ex}(h:(1:Int)=(xs.length:Int)):∃y,xs=[y]:=by
 match xs,h with
 |[y],_=>exact⟨y,rfl⟩
 |[],h=>simp at h
 |_::_::_,h=>simp at h;omega
theorem list2{xs:List Ex}(h:(2:Int)=(xs.length:Int)):∃x y,xs=[x,y]:=by
 match xs,h with
 |[x,y],_=>exact⟨x,y,rfl⟩
 |[],h=>simp at h
 |[_],h=>simp at h
 |_::_::_::_,h=>simp at h;omega
theorem list3{xs:List Ex}(h:(3:Int)=(xs.length:Int)):∃z x y,xs=[z,x,y]:=by
 match xs,h with
 |[z,x,y],_=>exact⟨z,x,y,rfl⟩
 |[],h=>simp at h
 |[_],h=>simp at h
 |[_,_],h=>simp at h
 |_::_::_::_::_,h=>simp at h;omega
theorem fine_zero(x:Ex):fine 0 x=false:=by cases x;rfl
theorem seg_code{l:List Of}{c:List In}(hf:Fwd c):∀(d:Nat) (x:Ex),fine d x=true→∀(p:Nat) (S:List Ce),Lies c p (cod x p)→S.length+d≤99→Seg l c p (p+clen x) S (anyR l d x):=by
 intro d
 induction d with
 |zero=>intro x h;rw[fine_zero] at h;cases h
 |succ d ih=>
  intro x h p S hl hS
  cases x with
  |mk k n nm xs=>
   obtain⟨h1,h2,h3,h4,h5⟩:=fine_parts h
   have hk:=kind_list (by omega:0≤argsN k)
   have kid:∀(y:Ex),y∈xs→∀(q:Nat) (T:List Ce),Lies c q (cod y q)→T.length+d≤99→Seg l c q (q+clen y) T (anyR l d y):=fun y hy q T hq hT=>ih y (fine_mem h hy) q T hq hT
   have len:∀(y:Ex),y∈xs→∀q,(cod y q).length=clen y:=fun y hy q=>cod_len d y (fine_mem h hy) q
   have told:∀(i:Nat) (hi:i<xs.length),(k=10→i≠0)→anyR l d xs[i]=toldN l d xs[i]:=fun i hi hn=>anyR_told (by
    rw[(h5 i hi).1]
    by_cases e:k=10
    ·simp[hn e]
    ·simp[e])
   have none0:(0:Int)=(xs.length:Int)→xs=[]:=fun e=>List.length_eq_zero_iff.1 (by omega)
   rcases hk with rfl|rfl|rfl|rfl|rfl|rfl|rfl|rfl|rfl|rfl|rfl|rfl
   ·obtain rfl:=none0 h1
    rw[anyR_told rfl,told_one _ _ _ rfl]
    rw[cod_op (by decide) (by decide),cods_nil,List.nil_append] at hl
    exact seg_put hf hl.head (by omega) rfl
   ·obtain rfl:=none0 h1
    rw[anyR_told rfl,told_two _ _ _ rfl]
    rw[cod_op (by decide) (by decide),cods_nil,List.nil_append] at hl
    exact seg_put hf hl.head (by omega) rfl
   ·obtain rfl:=none0 h1
    rw[anyR_told rfl,told_from _ _ _ rfl]
    rw[cod_op (by decide) (by decide),cods_nil,List.nil_append] at hl
    exact seg_put hf hl.head (by omega) rfl
   ·obtain rfl:=none0 h1
    rw[anyR_told rfl,told_fix _ _ _ rfl]
    rw[cod_op (by decide) (by decide),cods_nil,List.nil_append] at hl
    exact seg_put hf hl.head (by omega) rfl
   ·obtain⟨y,rfl⟩:=list1 h1
    have ty:=told 0 (by simp) (by omega)
    have e:toldN l (d+1) (.mk 5 n nm [y])=bindR (toldN l d y) (mapR fun u=>subR u n):=by
     rw[told_less5]
     cases toldN l d y with
     |error e=>rfl
     |ok v=>cases v<;>rfl
    rw[anyR_told rfl,e,clen_mk,clens_cons,clens_nil,if_neg (by decide)]
    rw[cod_op (by decide) (by decide),cods_cons,cods_nil,List.append_nil] at hl
    have h6:=kid y (by simp) p S hl.left (by omega)
    rw[show anyR l d y=toldN l d y from ty] at h6
    have h7:=seg_one hf (by omega) h6 (hl.right (len y (by simp) p)).head (F:=mapR fun u=>subR u n) (fun v=>by
     obtain⟨ha,hb⟩:=minus_ways (f:=fun u=>subR u n) (fun u e he=>sub_err _ _ _ he) S v
     refine⟨fun w hw=> ?_,fun e he=> ?_⟩
     ·rw[show opK 5=5 from rfl,step_less,ha w hw]
     ·obtain⟨h0,S',hs⟩:=hb e he
      exact⟨h0,S',by rw[show opK 5=5 from rfl,step_less,hs]⟩)
    rw[show p+clen y+1=p+(clen y+0+1) by omega] at h7
    exact h7
   ·obtain⟨y,rfl⟩:=list1 h1
    have ty:=told 0 (by simp) (by omega)
    have e:toldN l (d+1) (.mk 6 n nm [y])=bindR (toldN l d y) (mapR fun u=>cutR u n):=by
     rw[told_cut6]
     cases toldN l d y with
     |error e=>rfl
     |ok v=>cases v<;>rfl
    rw[anyR_told rfl,e,clen_mk,clens_cons,clens_nil,if_neg (by decide)]
    rw[cod_op (by decide) (by decide),cods_cons,cods_nil,List.append_nil] at hl
    have h6:=kid y (by simp) p S hl.left (by omega)
    rw[show anyR l d y=toldN l d y from ty] at h6
    have h7:=seg_one hf (by omega) h6 (hl.right (len y (by simp) p)).head (F:=mapR fun u=>cutR u n) (fun v=>by
     obtain⟨ha,hb⟩:=minus_ways (f:=fun u=>cutR u n) (fun u e he=>cut_err _ _ _ he) S v
     refine⟨fun w hw=> ?_,fun e he=> ?_⟩
     ·rw[show opK 6=6 from rfl,step_cut,ha w hw]
     ·obtain⟨h0,S',hs⟩:=hb e he
      exact⟨h0,S',by rw[show opK 6=6 from rfl,step_cut,hs]⟩)
    rw[show p+clen y+1=p+(clen y+0+1) by omega] at h7
    exact h7
   ·obtain⟨x,y,rfl⟩:=list2 h1
    have tx:=told 0 (by simp) (by omega)
    have ty:=told 1 (by simp) (by omega)
    have e:toldN l (d+1) (.mk 7 n nm [x,y])=bindR (toldN l d x) fun a=>bindR (toldN l d y) fun b=> .ok (twoC 7 a b):=by
     rw[told_both _ _ _ _ _ _ _ (by decide)]
     cases toldN l d x with
     |error e=>rfl
     |ok a=>cases toldN l d y<;>rfl
    rw[anyR_told rfl,e,clen_mk,clens_cons,clens_cons,clens_nil,if_neg (by decide)]
    rw[cod_op (by decide) (by decide),cods_cons,cods_cons,cods_nil,List.append_nil,List.append_assoc] at hl
    have h6:=kid x (by simp) p S hl.left (by omega)
    rw[show anyR l d x=toldN l d x from tx] at h6
    have hl2:=hl.right (len x (by simp) p)
    have h7:=seg_two hf (F:=twoC 7) (r':=toldN l d y) (by omega) h6 (fun v _=>by
     have:=kid y (by simp) (p+clen x) (S++[v]) hl2.left (by simp;omega)
     rwa [show anyR l d y=toldN l d y from ty] at this) (hl2.right (len y (by simp) _)).head (fun a b=>step_two (by decide) a b)
    rw[show p+clen x+clen y+1=p+(clen x+(clen y+0)+1) by omega] at h7
    exact h7
   ·obtain⟨x,y,rfl⟩:=list2 h1
    have tx:=told 0 (by simp) (by omega)
    have ty:=told 1 (by simp) (by omega)
    have e:toldN l (d+1) (.mk 8 n nm [x,y])=bindR (toldN l d x) fun a=>bindR (toldN l d y) fun b=> .ok (twoC 8 a b):=by
     rw[told_both _ _ _ _ _ _ _ (by decide)]
     cases toldN l d x with
     |error e=>rfl
     |ok a=>cases toldN l d y<;>rfl
    rw[anyR_told rfl,e,clen_mk,clens_cons,clens_cons,clens_nil,if_neg (by decide)]
    rw[cod_op (by decide) (by decide),cods_cons,cods_cons,cods_nil,List.append_nil,List.append_assoc] at hl
    have h6:=kid x (by simp) p S hl.left (by omega)
    rw[show anyR l d x=toldN l d x from tx] at h6
    have hl2:=hl.right (len x (by simp) p)
    have h7:=seg_two hf (F:=twoC 8) (r':=toldN l d y) (by omega) h6 (fun v _=>by
     have:=kid y (by simp) (p+clen x) (S++[v]) hl2.left (by simp;omega)
     rwa [show anyR l d y=toldN l d y from ty] at this) (hl2.right (len y (by simp) _)).head (fun a b=>step_two (by decide) a b)
    rw[show p+clen x+clen y+1=p+(clen x+(clen y+0)+1) by omega] at h7
    exact h7
   ·obtain⟨x,y,rfl⟩:=list2 h1
    have tx:=told 0 (by simp) (by omega)
    have ty:=told 1 (by simp) (by omega)
    have e:toldN l (d+1) (.mk 9 n nm [x,y])=orR (toldN l d x) (toldN l d y):=by
     rw[told_else]
     cases toldN l d x with
     |error e=>rfl
     |ok a=>cases a<;>rfl
    rw[anyR_told rfl,e,clen_mk,clens_cons,clens_cons,clens_nil,if_neg (by decide)]
    rw[cod_else,joinE,len x (by simp),len y (by simp)] at hl
    have h6:=kid x (by simp) p S hl.left (by omega)
    rw[show anyR l d x=toldN l d x from tx] at h6
    have hl2:=hl.right (len x (by simp) p)
    have h7:=kid y (by simp) (p+clen x+1) S hl2.tail (by omega)
    rw[show anyR l d y=toldN l d y from ty] at h7
    rw[show p+(clen x+(clen y+0)+1)=p+clen x+1+clen y by omega]
    exact seg_else hf (by omega) h6 hl2.head (by omega) h7
   ·obtain⟨z,x,y,rfl⟩:=list3 h1
    have cz:isCond z.k=true:=(h5 0 (by simp)).1
    have tx:=told 1 (by simp) (by omega)
    have ty:=told 2 (by simp) (by omega)
    have e:toldN l (d+1) (.mk 10 n nm [z,x,y])=ifR (condN l d z) (toldN l d x) (toldN l d y):=by
     rw[told_if]
     cases condN l d z with
     |error e=>rfl
     |ok a=>cases a<;>rfl
    rw[anyR_told rfl,e,clen_mk,clens_cons,clens_cons,clens_cons,clens_nil,if_pos rfl]
    rw[cod_if,joinI,len z (by simp),len x (by simp),len y (by simp)] at hl
    have h6:=kid z (by simp) p S hl.left (by omega)
    rw[anyR_cond cz] at h6
    have hl2:=hl.right (len z (by simp) p)
    have h7:=kid x (by simp) (p+clen z+1) S hl2.tail.left (by omega)
    rw[show anyR l d x=toldN l d x from tx] at h7
    have hl3:=hl2.tail.right (len x (by simp) _)
    have h8:=kid y (by simp) (p+clen z+1+clen x+1) S (by
     have:=hl3.tail
     rwa [show p+clen z+2+clen x=p+clen z+1+clen x+1 by omega] at this) (by omega)
    rw[show anyR l d y=toldN l d y from ty] at h8
    rw[show p+(clen z+(clen x+(clen y+0))+2)=p+clen z+1+clen x+1+clen y by omega]
    exact seg_if hf h6 hl2.head (by omega) h7 hl3.head (by omega) h8
   ·obtain rfl:=none0 h1
    rw[anyR_cond rfl,cond_more]
    rw[cod_op (by decide) (by decide),cods_nil,List.nil_append] at hl
    refine seg_put hf hl.head (by omega) ?_
    show(p+1,putM (S,0) (some (if n<(l.length:Int) then 1 else 0)))=_
    by_cases hn:n<(l.length:Int)<;>simp[hn]
   ·obtain⟨x,y,rfl⟩:=list2 h1
    have tx:=told 0 (by simp) (by omega)
    have ty:=told 1 (by simp) (by omega)
    have cx:isCond x.k=false:=(h5 0 (by simp)).1
    have cy:isCond y.k=false:=(h5 1 (by simp)).1
    have mx:=(told_less l d (d+1) (by omega) x (fine_mem h (y:=x) (by simp))).1 cx
    have my:=(told_less l d (d+1) (by omega) y (fine_mem h (y:=y) (by simp))).1 cy
    have e:boolR (condN l (d+1) (.mk 12 n nm [x,y]))=bindR (toldN l d x) fun a=>bindR (toldN l d y) fun b=> .ok (twoC 11 a b):=by
     rw[cond_above,mx,my]
     cases toldN l d x with
     |error e=>rfl
     |ok a=>
      cases toldN l d y with
      |error e=>rfl
      |ok b=>
       cases a with
       |none=>rfl
       |some a=>
        cases b with
        |none=>rfl
        |some b=>
         show Except.ok (some (if decide (b<a)=true then 1 else 0))=Except.ok (some (if b<a then 1 else 0))
         by_cases hb:b<a<;>simp[hb]
    rw[anyR_cond rfl,e,clen_mk,clens_cons,clens_cons,clens_nil,if_neg (by decide)]
    rw[cod_op (by decide) (by decide),cods_cons,cods_cons,cods_nil,List.append_nil,List.append_assoc] at hl
    have h6:=kid x (by simp) p S hl.left (by omega)
    rw[show anyR l d x=toldN l d x from tx] at h6
    have hl2:=hl.right (len x (by simp) p)
    have h7:=seg_two hf (F:=twoC 11) (r':=toldN l d y) (by omega) h6 (fun v _=>by
     have:=kid y (by simp) (p+clen x) (S++[v]) hl2.left (by simp;omega)
     rwa [show anyR l d y=toldN l d y from ty] at this) (hl2.right (len y (by simp) _)).head (fun a b=>step_two (by decide) a b)
    rw[show p+clen x+clen y+1=p+(clen x+(clen y+0)+1) by omega] at h7
    exact h7
theorem seg_run{l:List Of}{c:List In}{r:Rs}(h:Seg l c 0 c.length [] r):endR (goM l c 0 ([],0) 0).1=r:=by
 cases r with
 |error e=>
  obtain⟨he,h⟩:=h
  obtain⟨S',n',e1⟩:=h 0
  rw[e1];unfold endR;rw[if_neg he]
 |ok v=>
  obtain⟨n',e1⟩:=(h:SegOk l c 0 c.length [] v) 0
  rw[e1,go_end _ _ _ _ _ (Nat.le_refl _)];rfl
theorem rt_fine{x:Ex}(h:rightX x=true):fine 32 x=true∧isCond x.k=false:=by
 unfold rightX at h
 simp only[Bool.and_eq_true,Bool.not_eq_true'] at h
 exact⟨h.1.1.1,h.1.1.2⟩
theorem eval_not{l:List Of}(h:offsOk l=false)(x:Ex):evalS l x= .error 1:=by unfold evalS;rw[h];rfl
theorem run_not{l:List Of}(h:offsOk l=false)(c:List In):runS l c= .error 1∧stepsS l c=0:=by unfold runS stepsS;rw[h];exact⟨rfl,rfl⟩
theorem run_same(l:List Of){x:Ex}(h:rightX x=true):runS l (cod x 0)=evalS l x:=by
 obtain⟨h1,h2⟩:=rt_fine h
 obtain⟨h3,h4,_⟩:=right_code h
 cases ho:offsOk l with
 |false=>rw[eval_not ho,(run_not ho _).1]
 |true=>
  rw[(run_yes ho h3).1,eval_yes ho h,←anyR_told (l:=l) (d:=32) h2]
  apply seg_run
  have:=seg_code (l:=l) (fwd_of h3) 32 x h1 0 [] (lies_all _) (by simp)
  rwa [Nat.zero_add,←h4] at this
end Go.Proofs.YtfekhbeaphpelaaGreatDoor

namespace Go.Proofs.YtfekhbeaphpelaaGreatDoor
open Go.RowKit Go.Lib
set_option linter.unusedVariables false
set_option linter.unusedSimpArgs false
def RunOk:Prop:=∀(A A':Option Addr) (c c':Nat) (l:List In) (os:List Of) (w0 w:World),Rel w0 w→InsArg w A c l→OffArg w A' c' os→
  Calls Tryz.prog 46 #[.slice A l.length c,.slice A' os.length c'] w fun r w'=>r= .returned (RV (runS os l))∧Rel w0 w'
theorem fits_name(Wd:ByteArray)(M o n a z:Int)(nm:List UInt8)(hz:nm.length≤9223372036854775807)(w0 w:World)(hr:Rel w0 w):
  Calls Tryz.prog 115 #[.agg #[.string Wd,.int .i64 3,.int .i64 M],.agg #[.int .i64 o,.int .i64 n,.string (B nm)],.int .i64 a,.int .i64 z] w fun r w'=>r= .returned (.bool (decide (n=0)&&isName nm))∧Rel w0 w':=by
 have hA:=yH ((hr.alloc (.cells #[.string Wd,.int .i64 3,.int .i64 M] 166)).alloc (.cells #[.int .i64 o,.int .i64 n,.string (B nm)] 140))
 have HT:=B_toList nm
 by_cases h:n=0
 ·subst h
  go_enter Tryz.func115,Tryz.ntmps115
  go_wp2_with (go_at_call 113;(with_reducible refine(lname_list nm hz w0 _ hA.out).mono ?_);rintro e w1 ⟨rfl,h1⟩)
  go_ret
  exact⟨ret_bool (by simp),h1⟩
 ·have k1:(n==0)=false:=by simpa using h
  go_enter Tryz.func115,Tryz.ntmps115
  go_wp2_with (fail)
  go_ret
  exact⟨ret_bool (by simp[h]),hA.out⟩
theorem fits_place(Wd:ByteArray)(M o n a z:Int)(nm:List UInt8)(hz:nm.length≤9223372036854775807)(w0 w:World)(hr:Rel w0 w):
  Calls Tryz.prog 115 #[.agg #[.string Wd,.int .i64 2,.int .i64 M],.agg #[.int .i64 o,.int .i64 n,.string (B nm)],.int .i64 a,.int .i64 z] w fun r w'=>r= .returned (.bool (decide (a<n)&&decide (n≤z)&&decide (nm=[])))∧Rel w0 w':=by
 have hA:=yH ((hr.alloc (.cells #[.string Wd,.int .i64 2,.int .i64 M] 166)).alloc (.cells #[.int .i64 o,.int .i64 n,.string (B nm)] 140))
 have HT:=B_toList nm
 by_cases h1:a<n
 ·have d1:decide (a<n)=true:=decide_eq_true h1
  by_cases h2:n≤z
  ·have d2:decide (n≤z)=true:=decide_eq_true h2
   cases nm with
   |nil=>
    have e0:B []=⟨#[]⟩:=rfl
    go_enter Tryz.func115,Tryz.ntmps115
    go_wp2_with (fail)
    go_ret
    exact⟨ret_bool (by simp[d1,d2]),hA.out⟩
   |cons ch tl=>
    have s2:(ch::tl==[])=false:=rfl
    go_enter Tryz.func115,Tryz.ntmps115
    go_wp2_with (fail)
    go_ret
    exact⟨ret_bool (by simp[d1,d2]),hA.out⟩
  ·have d2:decide (n≤z)=false:=decide_eq_false h2
   go_enter Tryz.func115,Tryz.ntmps115
   go_wp2_with (fail)
   go_ret
   exact⟨ret_bool (by simp[d1,d2]),hA.out⟩
 ·have d1:decide (a<n)=false:=decide_eq_false h1
  go_enter Tryz.func115,Tryz.ntmps115
  go_wp2_with (fail)
  go_ret
  exact⟨ret_bool (by simp[d1]),hA.out⟩
theorem fits_num(Wd:ByteArray)(H M o n a z:Int)(nm:List UInt8)(hz:nm.length≤9223372036854775807)(h2':(H==2)=false)(h3':(H==3)=false)(w0 w:World)(hr:Rel w0 w):
  Calls Tryz.prog 115 #[.agg #[.string Wd,.int .i64 H,.int .i64 M],.agg #[.int .i64 o,.int .i64 n,.string (B nm)],.int .i64 a,.int .i64 z] w fun r w'=>r= .returned (.bool (decide (0≤n)&&decide (n≤M)&&decide (nm=[])))∧Rel w0 w':=by
 have hA:=yH ((hr.alloc (.cells #[.string Wd,.int .i64 H,.int .i64 M] 166)).alloc (.cells #[.int .i64 o,.int .i64 n,.string (B nm)] 140))
 have HT:=B_toList nm
 by_cases h1:0≤n
 ·have d1:decide (0≤n)=true:=decide_eq_true h1
  by_cases h2:n≤M
  ·have d2:decide (n≤M)=true:=decide_eq_true h2
   cases nm with
   |nil=>
    have e0:B []=⟨#[]⟩:=rfl
    go_enter Tryz.func115,Tryz.ntmps115
    go_wp2_with (fail)
    go_ret
    exact⟨ret_bool (by simp[d1,d2]),hA.out⟩
   |cons ch tl=>
    have s2:(ch::tl==[])=false:=rfl
    go_enter Tryz.func115,Tryz.ntmps115
    go_wp2_with (fail)
    go_ret
    exact⟨ret_bool (by simp[d1,d2]),hA.out⟩
  ·have d2:decide (n≤M)=false:=decide_eq_false h2
   go_enter Tryz.func115,Tryz.ntmps115
   go_wp2_with (fail)
   go_ret
   exact⟨ret_bool (by simp[d1,d2]),hA.out⟩
 ·have d1:decide (0≤n)=false:=decide_eq_false h1
  go_enter Tryz.func115,Tryz.ntmps115
  go_wp2_with (fail)
  go_ret
  exact⟨ret_bool (by simp[d1]),hA.out⟩
abbrev noOp:Value:= .agg #[.string ⟨#[]⟩,.int .i64 0,.int .i64 0]
theorem ops_none{o:Int}(h: ¬(1≤o∧o≤13)):look opsL o=none:=by
 unfold opsL
 simp only[look_cons]
 repeat rw[if_neg (by omega)]
 rfl
theorem ops_ways(o:Int): ¬(1≤o∧o≤13)∨o=1∨o=2∨o=3∨o=4∨o=5∨o=6∨o=7∨o=8∨o=9∨o=10∨o=11∨o=12∨o=13:=by omega
def FitsOp(o:Int)(Wd:ByteArray)(H M:Int):Prop:=∀(n:Int) (i len:Nat) (nm:List UInt8),nm.length≤9223372036854775807→∀w0 w,Rel w0 w→
  Calls Tryz.prog 115 #[.agg #[.string Wd,.int .i64 H,.int .i64 M],.agg #[.int .i64 o,.int .i64 n,.string (B nm)],.int .i64 (i:Int),.int .i64 (len:Int)] w fun r w'=>r= .returned (.bool (inOk len i (o,n,nm)))∧Rel w0 w'
theorem fits_num_op(Wd:ByteArray)(H M o:Int)(h2:(H==2)=false)(h3:(H==3)=false)(ho:1≤o∧o≤13)(h4:o≠4)(ht:isTo o=false)(hm:∀len,mostO len o=M):FitsOp o Wd H M:=fun n i len nm hz w0 w hr=>
 bool_at _ (fits_num Wd H M o n i len nm hz h2 h3 w0 w hr) (yH (by
  rw[inOk_eq,hm,if_neg h4,decide_eq_true ho,Bool.true_and]
  have:leastO i o=0:=by unfold leastO;rw[ht];rfl
  rw[this,Bool.decide_and]))
theorem fits_place_op(Wd:ByteArray)(M o:Int)(ho:o=9∨o=12∨o=13):FitsOp o Wd 2 M:=fun n i len nm hz w0 w hr=>
 bool_at _ (fits_place Wd M o n i len nm hz w0 w hr) (yH (by
  obtain⟨q1,q2⟩:=to_is ho i len
  rw[inOk_eq,q1,q2,if_neg (by omega),decide_eq_true (by omega:1≤o∧o≤13),Bool.true_and,Bool.decide_and]
  rw[show decide ((i:Int)+1≤n)=decide ((i:Int)<n) from by rw[decide_eq_decide];omega]))
theorem fits_name_op(Wd:ByteArray)(M:Int):FitsOp 4 Wd 3 M:=fun n i len nm hz w0 w hr=>
 bool_at _ (fits_name Wd M 4 n i len nm hz w0 w hr) (yH (by
  rw[inOk_eq,if_pos rfl]
  have e1:leastO i 4=0:=rfl
  have e2:mostO len 4=0:=rfl
  rw[e1,e2,decide_eq_true (by omega:(1:Int)≤4∧(4:Int)≤13),Bool.true_and]
  congr 1
  rw[decide_eq_decide];omega))
theorem ops_fits(o:Int):∃(Wd:ByteArray) (H M:Int) (b:Bool),(look opsL o).getD noOp= .agg #[.string Wd,.int .i64 H,.int .i64 M]∧(look opsL o).isSome=b∧(b=false→∀len i n nm,inOk len i (o,n,nm)=false)∧(b=true→FitsOp o Wd H M):=by
 rcases ops_ways o with h|rfl|rfl|rfl|rfl|rfl|rfl|rfl|rfl|rfl|rfl|rfl|rfl|rfl
 ·refine⟨⟨#[]⟩,0,0,false,by rw[ops_none h];rfl,by rw[ops_none h];rfl,fun _ len i n nm=> ?_,fun h=>by cases h⟩
  rw[inOk_eq,decide_eq_false h];rfl
 ·exact⟨_,_,_,true,rfl,rfl,(fun h=>by cases h),fun _=>fits_num_op _ _ _ _ rfl rfl (by decide) (by decide) rfl (fun _=>rfl)⟩
 ·exact⟨_,_,_,true,rfl,rfl,(fun h=>by cases h),fun _=>fits_num_op _ _ _ _ rfl rfl (by decide) (by decide) rfl (fun _=>rfl)⟩
 ·exact⟨_,_,_,true,rfl,rfl,(fun h=>by cases h),fun _=>fits_num_op _ _ _ _ rfl rfl (by decide) (by decide) rfl (fun _=>rfl)⟩
 ·exact⟨_,_,_,true,rfl,rfl,(fun h=>by cases h),fun _=>fits_name_op _ _⟩
 ·exact⟨_,_,_,true,rfl,rfl,(fun h=>by cases h),fun _=>fits_num_op _ _ _ _ rfl rfl (by decide) (by decide) rfl (fun _=>rfl)⟩
 ·exact⟨_,_,_,true,rfl,rfl,(fun h=>by cases h),fun _=>fits_num_op _ _ _ _ rfl rfl (by decide) (by decide) rfl (fun _=>rfl)⟩
 ·exact⟨_,_,_,true,rfl,rfl,(fun h=>by cases h),fun _=>fits_num_op _ _ _ _ rfl rfl (by decide) (by decide) rfl (fun _=>rfl)⟩
 ·exact⟨_,_,_,true,rfl,rfl,(fun h=>by cases h),fun _=>fits_num_op _ _ _ _ rfl rfl (by decide) (by decide) rfl (fun _=>rfl)⟩
 ·exact⟨_,_,_,true,rfl,rfl,(fun h=>by cases h),fun _=>fits_place_op _ _ _ (by decide)⟩
 ·exact⟨_,_,_,true,rfl,rfl,(fun h=>by cases h),fun _=>fits_num_op _ _ _ _ rfl rfl (by decide) (by decide) rfl (fun _=>rfl)⟩
 ·exact⟨_,_,_,true,rfl,rfl,(fun h=>by cases h),fun _=>fits_num_op _ _ _ _ rfl rfl (by decide) (by decide) rfl (fun _=>rfl)⟩
 ·exact⟨_,_,_,true,rfl,rfl,(fun h=>by cases h),fun _=>fits_place_op _ _ _ (by decide)⟩
 ·exact⟨_,_,_,true,rfl,rfl,(fun h=>by cases h),fun _=>fits_place_op _ _ _ (by decide)⟩
theorem ops_run_ok{w:World}{q:Nat}(h:MapIs w q opsL)(o:Int)(ho:i64 o){v:Value}{b:Bool}(hv:(look opsL o).getD noOp=v)(hb:(look opsL o).isSome=b):
  (Instr.lookup 163 (.map (some q)) (.int .i64 o) true).run Tryz.prog w= .ok (.tuple #[v,.bool b]) w:=by
 subst hv hb
 exact h.look_ok _ _ Tryz.underlying163 _ (by kernel_rfl) o (WalkArith.wf_i64 ho)
theorem cright_any:CRightOk:=fun A c l w0 w hr h=>by
 have HR:=yH hr
 have HS:=yH hr.self
 have HA:=yH h.2.2.2
 have HF:=yH h.2.2.1
 have hl:l.length≤9223372036854775807:=by have:=h.1;have:=h.2.1;unfold maxLen at this;omega
 clear h hr
 by_cases h5:5000<l.length
 ·have HB:=yH (code_many h5)
  have t1:decide ((5000:Int)<(l.length:Int))=true:=decide_eq_true (by omega)
  go_enter Tryz.func87,Tryz.ntmps87
  go_wp2_with (fail)
  go_ret
  exact⟨ret_bool HB.out.symm,HR.out⟩
 have t1:decide ((5000:Int)<(l.length:Int))=false:=decide_eq_false (by omega)
 go_enter Tryz.func87,Tryz.ntmps87
 go_wp2_with (go_at_call 114;(with_reducible refine(operations_any w _ HS.out).mono ?_);rintro e w1 ⟨q,rfl,hq,m1,r1,_⟩)
 have HM:=yH m1
 have HR1:=yH r1
 clear m1 r1
 go_loopw [14] (fun i wr=>∃j:Nat,j≤l.length∧i= .int .i64 (j:Int)∧Hid (okTo l j=true)∧Rel w1 wr) (fun i _=>l.length-(RowKit.intOf i).toNat)
 case atStart=>exact⟨0,by omega,rfl,yH rfl,HR1.out.self⟩
 case round=>
  obtain⟨i,hi,rfl,HN,hRw⟩:=hrel
  have HRw:=yH hRw
  by_cases hlt:i<l.length
  ·obtain⟨g,off,o,n,nm,rfl,c0,c1,c2,ho⟩:=ins_at HA.out (HR1.out.trans hRw) i hlt
   have hfo:=HF.out _ (List.getElem_mem hlt)
   rw[ho] at hfo
   obtain⟨hof,_,hs⟩:=hfo
   have HO:=yH ho
   obtain⟨Wd,H,M,b,hv,hb,hno,hyes⟩:=ops_fits o
   have lk:=ops_run_ok (((HM.out.rel hRw).alloc (.cells #[.int .i64 o,.int .i64 n,.string (B nm)] 140))) o hof hv hb
   have HX:=yH ((Bk.new wr 140 #[.int .i64 o,.int .i64 n,.string (B nm)]))
   have HX2:=yH ((Bk.new wr 140 #[.int .i64 o,.int .i64 n,.string (B nm)]).alloc (.cells #[.string Wd,.int .i64 H,.int .i64 M] 166))
   have HY:=yH (Bk.new (wr.alloc (.cells #[.int .i64 o,.int .i64 n,.string (B nm)] 140)) 166 #[.string Wd,.int .i64 H,.int .i64 M])
   have HRa:=yH ((hRw.alloc (.cells #[.int .i64 o,.int .i64 n,.string (B nm)] 140)).alloc (.cells #[.string Wd,.int .i64 H,.int .i64 M] 166))
   obtain⟨⟨x0,x1,x2⟩,_⟩:=three_of HX.out
   obtain⟨⟨y0,y1,y2⟩,_⟩:=three_of HX2.out
   obtain⟨⟨z0,z1,z2⟩,_⟩:=three_of HY.out
   rw[World.size_alloc] at z0 z1 z2
   clear ho hRw
   cases b with
   |false=>
    have HE:=yH (hno rfl l.length i n nm)
    clear hno hyes
    go_wp2_with (fail)
    go_ret
    exact⟨ret_bool (code_bad hlt HO.out HE.out).symm,HR.out.trans (HR1.out.trans HRa.out)⟩
   |true=>
    obtain⟨bv,hbv⟩:∃bv,inOk l.length i (o,n,nm)=bv:=⟨_,rfl⟩
    have HC:=yH (hyes rfl n i l.length nm hs w1 _ HRa.out)
    rw[hbv] at HC
    have HE:=yH hbv
    clear hno hyes hbv
    cases bv with
    |false=>
     go_wp2_with (go_at_call 115;(with_reducible refine HC.out.mono ?_);rintro e w2 ⟨rfl,r2⟩)
     go_ret
     exact⟨ret_bool (code_bad hlt HO.out HE.out).symm,HR.out.trans (HR1.out.trans r2)⟩
    |true=>
     go_wp2_with (go_at_call 115;(with_reducible refine HC.out.mono ?_);rintro e w2 ⟨rfl,r2⟩)
     go_roundw
     case rel=>exact⟨i+1,by omega,by go_num,yH (okTo_step hlt HO.out HN.out HE.out),r2⟩
     case measure=>simp[RowKit.intOf];omega
  ·obtain rfl:i=l.length:=by omega
   have HB:=yH (code_full (by omega) HN.out)
   clear hRw
   go_wp2_with (fail)
   go_ret
   exact⟨ret_bool HB.out.symm,HR.out.trans (HR1.out.trans HRw.out)⟩
abbrev TV(o:Option Int):Value:= .agg #[.int .i64 (o.getD 0),.bool o.isSome]
abbrev FLV:Ending:= .panicked [{v:= .iface 31 (.int .i64 10),recovered:=false}]
def TPost(w0:World)(r:Rs)(e:Ending)(w':World):Prop:=match r with
 | .ok o=>e= .returned (TV o)∧Rel w0 w'
 | .error _=>e=FLV∧Rel w0 w'
theorem vamount_any(n:Int)(w0 w:World)(hr:Rel w0 w):
  Calls Tryz.prog 142 #[.int .i64 n] w fun e w'=>e= .returned (.agg #[.int .i64 n,.bool true])∧Rel w0 w':=by
 have HR:=yH hr
 have hz:=hr.size
 clear hr
 go_enter Tryz.func142,Tryz.ntmps142
 go_wp2_with (fail)
 exact bodyPost_ret (v:=TV (some n)) (by simp[results,Tryz.results142,go_sem]) rfl ⟨rfl,by first|exact HR.out.alloc _|exact((HR.out.alloc _).setCell hz _).setCell hz _⟩
theorem up_pair{l:List Int}(h:l.Pairwise (fun a b=>decide (a≤b)=true)):Up l:=by
 induction h with
 |nil=>trivial
 |cons h _ ih=>exact⟨fun b hb=>of_decide_eq_true (h b hb),ih⟩
theorem srt_self{l:List Int}(h:Up l):srt l=l:=by
 induction l with
 |nil=>rfl
 |cons a t ih=>rw[srt,ih h.2];cases t with
  |nil=>rfl
  |cons b t=>unfold ins;rw[if_pos (h.1 b (List.mem_cons_self ..))]
theorem merge_srt(l:List Int):(l.mergeSort fun x y=>decide (x≤y))=srt l:=by
 have h1:(l.mergeSort fun x y=>decide (x≤y)).Perm l:=List.mergeSort_perm ..
 have h2:Up (l.mergeSort fun x y=>decide (x≤y)):=up_pair (List.pairwise_mergeSort (by intro a b c h1 h2;simp only[decide_eq_true_eq] at*;omega) (by intro a b;simp only[Bool.or_eq_true,decide_eq_true_eq];omega) l)
 rw[←srt_perm h1,srt_self h2]
def NumOwn(w:World)(base:Nat)(v:Value)(xs:List Int):Prop:=w.ownsRow base 3 1 v xs.length (xs.map (Value.int .i64))
theorem NumOwn.nil(w:World)(base:Nat):NumOwn w base (.slice none 0 0) []:=World.ownsRow_nil _ _ _ _
theorem NumOwn.rel{w w':World}{base:Nat}{v:Value}{xs:List Int}(h:NumOwn w base v xs)(hr:Rel w w'):NumOwn w' base v xs:=own_rel h hr
theorem NumOwn.more{w1:World}{base g cap:Nat}{xs:List Int}{n:Int}
  (h:w1.ownsRow base 3 1 (.slice (some ⟨g,0,none⟩) (xs.length+1) cap) (xs.length+1) (xs.map (Value.int .i64)++[.int .i64 n])):NumOwn w1 base (.slice (some ⟨g,0,none⟩) (xs.length+1) cap) (xs++[n]):=by
 unfold NumOwn
 rw[List.length_append,List.map_append];exact h
theorem num_info:(Tryz.prog.info? 3).map (fun i=>(i.zero,i.size,i.bytes))=some (some (.int .i64 0),1,8):=by kernel_rfl
theorem num_one(n:Int):∀u∈[Value.int .i64 n],u.oneCell'=true:=by
 intro u hu
 simp only[List.mem_cons,List.not_mem_nil,or_false] at hu
 subst hu;rfl
theorem NumOwn.some9{w:World}{base n c:Nat}{A:Option Addr}{xs:List Int}(h:NumOwn w base (.slice A n c) xs)(hn:n=xs.length)(h0:xs≠[]):∃g,A=some ⟨g,0,none⟩∧base≤g∧g<w.heap.size∧Sort.Holds (Value.int .i64) w g 0 xs.toArray:=by
 have h:w.ownsRow base 3 1 (.slice A n c) xs.length (xs.map (Value.int .i64)):=h
 rcases h.2 with ⟨_,h1⟩|⟨g,cap,cur,hv,hb,hh,_⟩
 ·exact absurd (List.length_eq_zero_iff.1 h1) h0
 ·have hA:A=some ⟨g,0,none⟩:=by injection hv
  subst hA
  have hc:=h.cells (g:=g) rfl
  refine⟨g,rfl,hb,Bk.lt (t:=3) hh,fun j hj=>⟨?_,Bk.frozen (t:=3) hh _⟩⟩
  have hj':j<xs.length:=by simpa using hj
  have:=hc j (.int .i64 xs[j]) (by rw[List.getElem?_map,List.getElem?_eq_getElem hj'];rfl)
  rw[addr_at] at this
  rw[this]
  simp[hj']
theorem sorted_row{w0 w:World}{g n:Nat}{xs:List Int}(os:Array Obj)(hr:Rel w0 w)(hg:w0.heap.size≤g)(hgl:g<w.heap.size)(hh:Sort.Holds (Value.int .i64) w g 0 xs.toArray):
  Rel w0 (Sort.grow (Sort.putRow (Value.int .i64) (Sort.ahead w n) g 0 (xs.mergeSort fun x y=>decide (x≤y)).toArray) os)∧
  ∀j v,(srt xs)[j]?=some v→(Sort.grow (Sort.putRow (Value.int .i64) (Sort.ahead w n) g 0 (xs.mergeSort fun x y=>decide (x≤y)).toArray) os).cell? ⟨g,j,none⟩=some (.int .i64 v):=by
 rw[merge_srt]
 have hh':Sort.Holds (Value.int .i64) (Sort.ahead w n) g 0 xs.toArray:=hh
 have hs:(srt xs).toArray.size=xs.toArray.size:=by simp[srt_len]
 have hp:=Sort.holds_putRow _ _ _ _ _ (srt xs).toArray hh' hs
 have hz:(Sort.putRow (Value.int .i64) (Sort.ahead w n) g 0 (srt xs).toArray).heap.size=w.heap.size:=Sort.size_putRow ..
 have hq:=Sort.holds_grow (Value.int .i64) _ os g 0 _ (by rw[hz];exact hgl) hp
 refine⟨?_,fun j v hv=> ?_⟩
 ·have h1:Rel w0 (Sort.putRow (Value.int .i64) (Sort.ahead w n) g 0 (srt xs).toArray):=by
   refine⟨hr.1,⟨hr.2.os,hr.2.tape,hr.2.output,by rw[hz];exact hr.2.size,fun k hk=> ?_⟩⟩
   have:k≠g:=by omega
   refine Eq.trans ?_ (hr.2.block k hk)
   show(w.heap.modify g _)[k]?=w.heap[k]?
   rw[Array.getElem?_modify,if_neg (Ne.symm this)]
  exact h1.grow os
 ·have hl:j<(srt xs).length:=(List.getElem?_eq_some_iff.1 hv).1
  have:=(hq j (by simpa using hl)).1
  rw[Nat.zero_add] at this
  rw[this]
  obtain⟨_,e⟩:=List.getElem?_eq_some_iff.1 hv
  subst e
  simp[hl]
theorem off_box(w:World)(s:ByteArray)(p:Int):Bk (w.alloc (.cells #[.string s,.int .i64 p] 46)) w.heap.size 46 #[.string s,.int .i64 p]:=Bk.new w _ _
theorem vfrom_any(nm:List UInt8)(A:Option Addr)(c:Nat)(os:List Of)(w0 w:World)(hr:Rel w0 w)(ho:OffArg w A c os):
  Calls Tryz.prog 112 #[.slice A os.length c,.string (B nm)] w fun e w'=>e= .returned (TV (fromO os nm))∧Rel w0 w':=by
 have HR:=yH hr
 have hz:=hr.size
 have HT:=yH (Bk.new w 160 #[.int .i64 0,.bool false])
 have HA:=yH (hr.self.alloc (.cells #[.int .i64 0,.bool false] 160))
 have HOf:=yH ho.2.2.2
 have hl:os.length≤9223372036854775807:=by have:=ho.1;have:=ho.2.1;unfold maxLen at this;omega
 obtain⟨W,hW⟩:∃W,w.alloc (.cells #[.int .i64 0,.bool false] 160)=W:=⟨_,rfl⟩
 rw[hW] at HT HA
 obtain⟨X,hX⟩:∃X,B nm=X:=⟨_,rfl⟩
 have HX:=yH hX
 rw[hX]
 clear ho hX hr
 go_enter Tryz.func112,Tryz.ntmps112
 go_wp2_with (fail)
 go_loopw [9] (fun i wr=>∃j:Nat,j≤os.length∧i= .int .i64 (j:Int)∧Hid (∀k (hk:k<os.length),k<j→os[k].1≠nm)∧Rel W wr) (fun i _=>os.length-(RowKit.intOf i).toNat)
 case atStart=>exact⟨0,by omega,rfl,yH (fun k _ hk=>absurd hk (by omega)),HA.out.right2⟩
 case round=>
  obtain⟨i,hi,rfl,HN,hRw⟩:=hrel
  have HRw:=yH hRw
  by_cases hlt:i<os.length
  ·obtain⟨g,off,s,p,rfl,c0,c1,ho⟩:=offs_at HOf.out (HA.out.trans hRw) i hlt
   obtain⟨Y,hY⟩:∃Y,B s=Y:=⟨_,rfl⟩
   have HO:=yH ho
   rw[hY] at c0
   have HY:=yH hY
   have HBx:=yH (off_box wr Y p)
   have HAx:=yH (hRw.self.alloc (.cells #[.string Y,.int .i64 p] 46))
   obtain⟨V,hV⟩:∃V,wr.alloc (.cells #[.string Y,.int .i64 p] 46)=V:=⟨_,rfl⟩
   rw[hV] at HBx HAx
   obtain⟨⟨x0,x1⟩,_⟩:=HBx.out.two
   clear ho hY hRw
   by_cases he:Y=X
   ·have k1:=list_of.2 he
    have HV:=yH (show fromO os nm=some p by
     have h1:os[i].1=nm:=by rw[HO.out];show s=nm;rw[←B_list s,←B_list nm,HY.out,HX.out,he]
     rw[from_hit hlt h1 HN.out,HO.out])
    clear he
    go_wp2_with (go_at_call 142;(with_reducible refine(vamount_any p _ _ HAx.out.self).mono ?_);rintro e w3 ⟨rfl,h3⟩;have R3:=yH h3;obtain⟨⟨d0,d1⟩,e0,e1⟩:=(HT.out.rel ((HRw.out.trans HAx.out).trans h3)).two)
    rw[HV.out]
    exact bodyPost_ret (v:=TV (some p)) (by simp[results,Tryz.results112,go_sem,d0,d1]) rfl ⟨rfl,((((HR.out.trans HA.out).trans (HRw.out.trans HAx.out)).trans R3.out).setCell hz _).setCell hz _⟩
   ·have k1:=list_ne he
    have HN2:Hid (∀k (hk:k<os.length),k<i+1→os[k].1≠nm):=yH (fun k hk hki=>by
     by_cases e:k=i
     ·subst e
      rw[HO.out]
      show s≠nm
      intro e;subst e;exact he (HY.out.symm.trans HX.out)
     ·exact HN.out k hk (by omega))
    clear he
    go_wp2_with (fail)
    go_roundw
    case rel=>exact⟨i+1,by omega,by go_num,HN2,HRw.out.trans HAx.out⟩
    case measure=>simp[RowKit.intOf];omega
  ·obtain rfl:i=os.length:=by omega
   have HV:=yH (show fromO os nm=none from from_none fun k hk=>HN.out k hk hk)
   obtain⟨⟨d0,d1⟩,e0,e1⟩:=(HT.out.rel hRw).two
   go_wp2_with (fail)
   rw[HV.out]
   exact bodyPost_ret (v:=TV none) (by simp[results,Tryz.results112,go_sem,d0,d1]) rfl ⟨rfl,(((HR.out.trans HA.out).trans HRw.out).setCell hz _).setCell hz _⟩
theorem num_new(w:World)(n:Int):∀j u,[Value.int .i64 n][j]?=some u→(w.alloc (.cells #[.int .i64 n] 3)).cell? ((⟨w.heap.size,0,none⟩:Addr).add j)=some u:=World.news_of_block (Bk.new w 3 #[.int .i64 n])
theorem NumOwn.slice{w:World}{base:Nat}{v:Value}{xs:List Int}(h:NumOwn w base v xs):∃A c,v= .slice A xs.length c:=by
 have h:w.ownsRow base 3 1 v xs.length (xs.map (Value.int .i64)):=h
 obtain⟨A,c,e,_⟩:=own_slice h
 exact⟨A,c,e⟩
theorem prices_take(os:List Of)(i:Nat)(h:i<os.length):prices (os.take (i+1))=prices (os.take i)++[os[i].2]:=by
 unfold prices
 rw[List.take_succ_eq_append_getElem h,List.map_append];rfl
theorem prices_tlen(os:List Of)(i:Nat)(h:i≤os.length):(prices (os.take i)).length=i:=by
 unfold prices;rw[List.length_map,List.length_take];omega
theorem vranked_any(n:Nat)(hn:n≤100)(A:Option Addr)(c:Nat)(os:List Of)(h8:os.length≤8)(w0 w:World)(hr:Rel w0 w)(ho:OffArg w A c os):
  Calls Tryz.prog 184 #[.slice A os.length c,.int .i64 (n:Int)] w fun e w'=>e= .returned (TV (rk os n))∧Rel w0 w':=by
 have HR:=yH hr
 have hz:=hr.size
 obtain⟨i0,hi0,hz0,hz1,hz2⟩:=info_parts num_info
 have HT:=yH (Bk.new w 160 #[.int .i64 0,.bool false])
 have HA:=yH (hr.self.alloc (.cells #[.int .i64 0,.bool false] 160))
 have HOf:=yH ho.2.2.2
 have hsz:w.heap.size≤(w.alloc (.cells #[.int .i64 0,.bool false] 160)).heap.size:=by rw[World.size_alloc];omega
 obtain⟨W,hW⟩:∃W,w.alloc (.cells #[.int .i64 0,.bool false] 160)=W:=⟨_,rfl⟩
 rw[hW] at HT HA hsz
 obtain⟨⟨d0,d1⟩,e0,e1⟩:=HT.out.two
 clear ho hr
 by_cases hge:os.length≤n
 ·have HV:=yH (show rk os n=none by unfold rk;rw[List.getElem?_eq_none];rw[srt_len,prices_len];exact hge)
  have t1:decide ((os.length:Int)≤(n:Int))=true:=decide_eq_true (by omega)
  go_enter Tryz.func184,Tryz.ntmps184
  rw[HV.out]
  go_wp2_with (fail)
  exact bodyPost_ret (v:=TV none) (by simp[results,Tryz.results184,go_sem,d0,d1]) rfl ⟨rfl,((HR.out.trans HA.out).setCell hz _).setCell hz _⟩
 ·have t1:decide ((os.length:Int)≤(n:Int))=false:=decide_eq_false (by omega)
  have hlt0:n<os.length:=by omega
  obtain⟨v,hv⟩:∃v,rk os n=some v:=by
   have:n<(srt (prices os)).length:=by rw[srt_len,prices_len];exact hlt0
   exact⟨_,List.getElem?_eq_getElem this⟩
  have HV:=yH hv
  have hN:(n:Int)<(os.length:Int):=by omega
  clear hv d0 d1 e0 e1
  go_enter Tryz.func184,Tryz.ntmps184
  rw[HV.out]
  go_wp2_with (fail)
  go_loopw [5,15] (fun ps i wr=>∃j:Nat,j≤os.length∧i= .int .i64 (j:Int)∧NumOwn wr W.heap.size ps (prices (os.take j))∧Rel W wr) (fun _ i _=>os.length-(RowKit.intOf i).toNat)
  case atStart=>exact⟨0,by omega,rfl,NumOwn.nil _ _,HA.out.right2⟩
  case round=>
   obtain⟨i,hi,rfl,hown,hRw⟩:=hrel
   have HRw:=yH hRw
   by_cases hlt:i<os.length
   ·obtain⟨A2,c2,rfl⟩:=hown.slice
    obtain⟨g,off,s,p,rfl,c0,c1,ho⟩:=offs_at HOf.out (HA.out.trans hRw) i hlt
    obtain⟨Y,hY⟩:∃Y,B s=Y:=⟨_,rfl⟩
    rw[hY] at c0
    have HP:=yH (show prices (os.take (i+1))=prices (os.take i)++[p] by rw[prices_take os i hlt,ho])
    have hpl:=prices_tlen os i hi
    have HBx:=yH (off_box wr Y p)
    have HAx:=yH (hRw.self.alloc (.cells #[.string Y,.int .i64 p] 46))
    obtain⟨V,hV⟩:∃V,wr.alloc (.cells #[.string Y,.int .i64 p] 46)=V:=⟨_,rfl⟩
    rw[hV] at HBx HAx
    obtain⟨⟨x0,x1⟩,_⟩:=HBx.out.two
    have HOV:=yH (hown.rel HAx.out)
    generalize prices (os.take i)=ps at*
    have hb:W.heap.size≤V.heap.size:=(hRw.trans HAx.out).size
    have HL:=yH hpl
    have hps:ps.length≤8:=by omega
    clear ho hY hRw hown hpl
    go_wp2_with (at_builtin;(refine wpList_append_lies _ rfl _ _ 23 rfl W.heap.size 3 i0 (.int .i64 0) 1 8 Tryz.underlying23 hi0 hz0 hz1 hz2 rfl (by decide) _ ps.length (ps.map (Value.int .i64)) rfl ((show V.ownsRow W.heap.size 3 1 (.slice A2 ps.length c2) ps.length (ps.map (Value.int .i64)) from HOV.out).alloc _) ⟨V.heap.size,0,none⟩ 1 1 [.int .i64 p] rfl rfl (num_new V p) (num_one p) (by decide) (by unfold maxLen;omega) (by omega) (by simp;omega) _ rfl ?_);intro g1 cap w1 hown1 hgrow hat hlt1)
    have R1:Rel W w1:=((HRw.out.trans HAx.out).alloc _).grown hgrow (fun k hk=>((show V.ownsRow W.heap.size 3 1 (.slice A2 ps.length c2) ps.length (ps.map (Value.int .i64)) from HOV.out).lt k hk).1)
    have HO1:=yH (NumOwn.more hown1)
    have HL2:=yH (show ps.length+1=i+1 by rw[HL.out])
    go_roundw
    case rel=>exact⟨i+1,by omega,by go_num,by rw[HP.out];exact HO1.out,R1⟩
    case measure=>simp[RowKit.intOf];omega
   ·obtain rfl:i=os.length:=by omega
    rw[List.take_length] at hown
    obtain⟨A2,c2,rfl⟩:=hown.slice
    have HOwn:=yH hown
    have hpl:=prices_len os
    have hv2:=HV.out
    unfold rk at hv2
    have hne:prices os≠[]:=fun e=>by rw[e] at hpl;simp at hpl;omega
    obtain⟨g,rfl,hb,hgl,hh⟩:=NumOwn.some9 HOwn.out rfl hne
    have HSt:=yH (fun(os':Array Obj) (m:Nat)=>sorted_row (n:=m) os' hRw hb hgl hh)
    have HSort:=yH (Tryz.slices_Sort_int g 0 c2 (prices os) wr hh hgl (by rw[hpl];omega))
    have HV2:=yH hv2
    have hN2:n<(prices os).length:=by omega
    have hN3:(n:Int)<((prices os).length:Int):=by omega
    clear hv2 hh hRw HOwn hown hpl hne
    go_wp2_with (first
     |(go_at_call 199;(with_reducible refine HSort.out.mono ?_);rintro e w1 ⟨rfl,m,os',rfl⟩;have R1:=yH (HSt.out os' m).1;have cv:=(HSt.out os' m).2 n v HV2.out;obtain⟨w1,hw1⟩:∃w1,Sort.grow (Sort.putRow (Value.int .i64) (Sort.ahead wr m) g 0 ((prices os).mergeSort fun x y=>decide (x≤y)).toArray) os'=w1:=⟨_,rfl⟩;rw[hw1] at R1 cv⊢;clear hw1)
     |(go_at_call 142;(with_reducible refine(vamount_any v _ _ R1.out.self).mono ?_);rintro e w3 ⟨rfl,h3⟩;have R3:=yH h3;obtain⟨⟨d0,d1⟩,e0,e1⟩:=(HT.out.rel (R1.out.trans h3)).two))
    exact bodyPost_ret (v:=TV (some v)) (by simp[results,Tryz.results184,go_sem,d0,d1]) rfl ⟨rfl,((((HR.out.trans HA.out).trans R1.out).trans R3.out).setCell hz _).setCell hz _⟩
theorem tp_ok{f:FuncId}{args:Array Value}{w w0:World}{r:Rs}{o:Option Int}{V:Int}{b:Bool}(h:Calls Tryz.prog f args w (TPost w0 r))(hr:r= .ok o)(hV:o.getD 0=V)(hb:o.isSome=b):Calls Tryz.prog f args w fun e w'=>e= .returned (.agg #[.int .i64 V,.bool b])∧Rel w0 w':=by subst hr;subst hV;subst hb;exact h
theorem tp_no{f:FuncId}{args:Array Value}{w w0:World}{r:Rs}{er:Int}(h:Calls Tryz.prog f args w (TPost w0 r))(hr:r= .error er):Calls Tryz.prog f args w fun e w'=>e=FLV∧Rel w0 w':=by subst hr;exact h
def SB(w w':World)(ty:TypeId)(xs:Array Value):Prop:=Rel w w'∧Bk w' w.heap.size ty xs∧∃a b,Bk w' (w.heap.size+1) 160 #[a,b]
theorem SB.rel{w w' w2:World}{ty:TypeId}{xs:Array Value}(h:SB w w' ty xs)(hr:Rel w' w2):SB w w2 ty xs:=by
 obtain⟨h1,h2,a,b,h3⟩:=h
 exact⟨h1.trans hr,h2.rel hr,a,b,h3.rel hr⟩
theorem SB.new{w:World}(hr:Rel w w)(ty:TypeId)(xs:Array Value):SB w ((w.alloc (.cells xs ty)).alloc (.cells #[.int .i64 0,.bool false] 160)) ty xs:=
 ⟨(hr.alloc _).alloc _,(Bk.new w ty xs).alloc _,_,_,Bk.snd w xs #[.int .i64 0,.bool false] ty 160⟩
theorem SB.r{w w':World}{ty:TypeId}{xs:Array Value}(h:SB w w' ty xs):Rel w w':=h.1
theorem SB.self{w w':World}{ty:TypeId}{xs:Array Value}(h:SB w w' ty xs):Rel w' w':=h.1.self
theorem SB.put{w w':World}{ty:TypeId}{xs:Array Value}(h:SB w w' ty xs)(a b:Value):SB w ((w'.setCell ⟨w.heap.size+1,0,none⟩ a).setCell ⟨w.heap.size+1,1,none⟩ b) ty xs:=by
 obtain⟨h1,h2,u,v,h3⟩:=h
 refine⟨(h1.setCell (Nat.le_succ _) a).setCell (Nat.le_succ _) b,(h2.far (Nat.ne_of_lt (Nat.lt_succ_self _)) a).far (Nat.ne_of_lt (Nat.lt_succ_self _)) b,a,b, ?_⟩
 exact(h3.set_ 0 a).set_ 1 b
theorem pex1(n:Int)(nm:List UInt8)(A1:Option Addr)(c1:Nat)(ov:Value)(w0 w:World)(hr:Rel w0 w)(V:Int)(b:Bool)(hb:∀w',Rel w w'→Calls Tryz.prog 184 #[ov,.int .i64 0] w' fun z w2=>z= .returned (.agg #[.int .i64 V,.bool b])∧Rel w' w2):
  Calls Tryz.prog 176 #[ov,.agg #[.int .i64 1,.int .i64 n,.string (B nm),.slice A1 0 c1]] w fun z w'=>z= .returned (.agg #[.int .i64 V,.bool b])∧Rel w0 w':=by
 have HR:=yH hr
 have Hhb:=yH hb
 have HS:=yH (SB.new hr.self 52 #[.int .i64 1,.int .i64 n,.string (B nm),.slice A1 0 c1])
 obtain⟨W,hW⟩:∃W,(w.alloc (.cells #[.int .i64 1,.int .i64 n,.string (B nm),.slice A1 0 c1] 52)).alloc (.cells #[.int .i64 0,.bool false] 160)=W:=⟨_,rfl⟩
 rw[hW] at HS
 have hS9:=HS.out
 obtain⟨⟨b0,b1,b2,b3⟩,_⟩:=hS9.2.1.four
 clear hr hS9 hb
 go_enter Tryz.func176,Tryz.ntmps176
 go_wp2_with (go_at_call 184;(with_reducible refine(Hhb.out _ HS.out.r).mono ?_);rintro e w1 ⟨rfl,h1⟩;have HS1:=yH (HS.out.rel h1);have hS9:=HS1.out;obtain⟨a9,b9,hb9⟩:=hS9.2.2;obtain⟨⟨d0,d1⟩,e0,e1⟩:=hb9.two;clear hS9 hb9)
 exact bodyPost_ret (v:= .agg #[.int .i64 V,.bool b]) (by simp[results,Tryz.results176,go_sem,d0,d1]) rfl ⟨rfl,HR.out.trans (HS1.out.put _ _).1⟩
theorem pex2(n:Int)(nm:List UInt8)(A1:Option Addr)(c1:Nat)(ov:Value)(w0 w:World)(hr:Rel w0 w)(V:Int)(b:Bool)(hb:∀w',Rel w w'→Calls Tryz.prog 184 #[ov,.int .i64 1] w' fun z w2=>z= .returned (.agg #[.int .i64 V,.bool b])∧Rel w' w2):
  Calls Tryz.prog 176 #[ov,.agg #[.int .i64 2,.int .i64 n,.string (B nm),.slice A1 0 c1]] w fun z w'=>z= .returned (.agg #[.int .i64 V,.bool b])∧Rel w0 w':=by
 have HR:=yH hr
 have Hhb:=yH hb
 have HS:=yH (SB.new hr.self 52 #[.int .i64 2,.int .i64 n,.string (B nm),.slice A1 0 c1])
 obtain⟨W,hW⟩:∃W,(w.alloc (.cells #[.int .i64 2,.int .i64 n,.string (B nm),.slice A1 0 c1] 52)).alloc (.cells #[.int .i64 0,.bool false] 160)=W:=⟨_,rfl⟩
 rw[hW] at HS
 have hS9:=HS.out
 obtain⟨⟨b0,b1,b2,b3⟩,_⟩:=hS9.2.1.four
 clear hr hS9 hb
 go_enter Tryz.func176,Tryz.ntmps176
 go_wp2_with (go_at_call 184;(with_reducible refine(Hhb.out _ HS.out.r).mono ?_);rintro e w1 ⟨rfl,h1⟩;have HS1:=yH (HS.out.rel h1);have hS9:=HS1.out;obtain⟨a9,b9,hb9⟩:=hS9.2.2;obtain⟨⟨d0,d1⟩,e0,e1⟩:=hb9.two;clear hS9 hb9)
 exact bodyPost_ret (v:= .agg #[.int .i64 V,.bool b]) (by simp[results,Tryz.results176,go_sem,d0,d1]) rfl ⟨rfl,HR.out.trans (HS1.out.put _ _).1⟩
theorem pex3(n:Int)(nm:List UInt8)(A1:Option Addr)(c1:Nat)(ov:Value)(w0 w:World)(hr:Rel w0 w)(V:Int)(b:Bool)(hb:∀w',Rel w w'→Calls Tryz.prog 112 #[ov,.string (B nm)] w' fun z w2=>z= .returned (.agg #[.int .i64 V,.bool b])∧Rel w' w2):
  Calls Tryz.prog 176 #[ov,.agg #[.int .i64 3,.int .i64 n,.string (B nm),.slice A1 0 c1]] w fun z w'=>z= .returned (.agg #[.int .i64 V,.bool b])∧Rel w0 w':=by
 have HR:=yH hr
 have Hhb:=yH hb
 have HS:=yH (SB.new hr.self 52 #[.int .i64 3,.int .i64 n,.string (B nm),.slice A1 0 c1])
 obtain⟨W,hW⟩:∃W,(w.alloc (.cells #[.int .i64 3,.int .i64 n,.string (B nm),.slice A1 0 c1] 52)).alloc (.cells #[.int .i64 0,.bool false] 160)=W:=⟨_,rfl⟩
 rw[hW] at HS
 have hS9:=HS.out
 obtain⟨⟨b0,b1,b2,b3⟩,_⟩:=hS9.2.1.four
 clear hr hS9 hb
 go_enter Tryz.func176,Tryz.ntmps176
 go_wp2_with (go_at_call 112;(with_reducible refine(Hhb.out _ HS.out.r).mono ?_);rintro e w1 ⟨rfl,h1⟩;have HS1:=yH (HS.out.rel h1);have hS9:=HS1.out;obtain⟨a9,b9,hb9⟩:=hS9.2.2;obtain⟨⟨d0,d1⟩,e0,e1⟩:=hb9.two;clear hS9 hb9)
 exact bodyPost_ret (v:= .agg #[.int .i64 V,.bool b]) (by simp[results,Tryz.results176,go_sem,d0,d1]) rfl ⟨rfl,HR.out.trans (HS1.out.put _ _).1⟩
theorem pex4(n:Int)(nm:List UInt8)(A1:Option Addr)(c1:Nat)(ov:Value)(w0 w:World)(hr:Rel w0 w):
  Calls Tryz.prog 176 #[ov,.agg #[.int .i64 4,.int .i64 n,.string (B nm),.slice A1 0 c1]] w fun z w'=>z= .returned (.agg #[.int .i64 n,.bool true])∧Rel w0 w':=by
 have HR:=yH hr
 have HS:=yH (SB.new hr.self 52 #[.int .i64 4,.int .i64 n,.string (B nm),.slice A1 0 c1])
 obtain⟨W,hW⟩:∃W,(w.alloc (.cells #[.int .i64 4,.int .i64 n,.string (B nm),.slice A1 0 c1] 52)).alloc (.cells #[.int .i64 0,.bool false] 160)=W:=⟨_,rfl⟩
 rw[hW] at HS
 have hS9:=HS.out
 obtain⟨⟨b0,b1,b2,b3⟩,_⟩:=hS9.2.1.four
 clear hr hS9
 go_enter Tryz.func176,Tryz.ntmps176
 go_wp2_with (go_at_call 142;(with_reducible refine(vamount_any n _ _ HS.out.self).mono ?_);rintro e w1 ⟨rfl,h1⟩;have HS1:=yH (HS.out.rel h1);have hS9:=HS1.out;obtain⟨a9,b9,hb9⟩:=hS9.2.2;obtain⟨⟨d0,d1⟩,e0,e1⟩:=hb9.two;clear hS9 hb9)
 exact bodyPost_ret (v:=TV (some n)) (by simp[results,Tryz.results176,go_sem,d0,d1]) rfl ⟨rfl,HR.out.trans (HS1.out.put _ _).1⟩
theorem tp_of_ok{f:FuncId}{args:Array Value}{w w0:World}{r:Rs}{o:Option Int}{V:Int}{b:Bool}(hr:r= .ok o)(hV:o.getD 0=V)(hb:o.isSome=b)(h:Calls Tryz.prog f args w fun e w'=>e= .returned (.agg #[.int .i64 V,.bool b])∧Rel w0 w'):Calls Tryz.prog f args w (TPost w0 r):=by subst hr;subst hV;subst hb;exact h
abbrev PE(r:Bool):PanicEntry:={v:= .iface 31 (.int .i64 10),recovered:=r}
theorem err_ta(w:World):(Instr.typeAssert (.iface 31 (.int .i64 10)) 20 31 true).run Tryz.prog w= .ok (.tuple #[.int .i64 10,.bool true]) w:=by rfl
theorem nil_ta(w:World):(Instr.typeAssert .nilIface 20 31 true).run Tryz.prog w= .ok (.tuple #[.int .i64 0,.bool false]) w:=by rfl
theorem vcatch1_panicking(pe:Nat)(w:World)(o:List PanicEntry){e0:Value}(he:Bk w pe 31 #[e0]):
  CallsD Tryz.prog 183 #[.pointer (some ⟨pe,0,none⟩)] (.panicking (PE false::o)) w fun e u' w'=>
   e= .returned (.tuple #[])∧u'= .panicking (PE true::o)∧w'=w.setCell ⟨pe,0,none⟩ (.int .i64 10):=by
 refine callsD_of_wpS Tryz.func183 rfl fun c₀ cs hu=> ?_
 have hta:=err_ta
 have c0:=he.cell 0
 have f0:=he.frozen 0
 simp only[List.getElem?_toArray,List.getElem?_cons_zero] at c0
 change Code.wpS _ _ _ {tmps:= #[.pointer (some ⟨pe,0,none⟩),undef,undef,undef,undef,undef,undef,undef,undef,undef],defers:=[]} _ _
 apply wpS_seq
 apply wpS_region
 simp[wpOpsS,go_sem,recoverD,hu,Exit.thenS,hta]
 apply wpS_seq
 apply wpS_region
 simp[wpOpsS,go_sem,Exit.thenS]
 refine wpS_cond (t:=true) (by simp[Act.eval]) ?_
 simp only[if_true]
 apply wpS_region
 simp[wpOpsS,go_sem,Exit.thenS,c0,f0]
 cases c₀
 simp_all [bodyPostS,results,Tryz.results183]
theorem vcatch1_idle(pe:Nat)(w:World):
  CallsD Tryz.prog 183 #[.pointer (some ⟨pe,0,none⟩)] .returning w fun e u' w'=>e= .returned (.tuple #[])∧u'= .returning∧w'=w:=by
 refine callsD_of_wpS Tryz.func183 rfl fun c₀ cs hu=> ?_
 have hta:=nil_ta
 change Code.wpS _ _ _ {tmps:= #[.pointer (some ⟨pe,0,none⟩),undef,undef,undef,undef,undef,undef,undef,undef,undef],defers:=[]} _ _
 apply wpS_seq
 apply wpS_region
 simp[wpOpsS,go_sem,recoverD,hu,Exit.thenS,hta]
 apply wpS_seq
 apply wpS_region
 simp[wpOpsS,go_sem,Exit.thenS]
 refine wpS_cond (t:=false) (by simp[Act.eval]) ?_
 simp only[Bool.false_eq_true,if_false]
 refine wpS_of_wp (wp_skip ?_)
 cases c₀
 simp_all [bodyPostS,results,Tryz.results183]
end Go.Proofs.YtfekhbeaphpelaaGreatDoor
