/- What the law makes of raw numbers: its expressions, in memory; A drawn region walked by hand: what is taken first, under a condition that the region keeps; what alone may come up; The document's own readings of numbers and amounts (layer 2's), at this seat; The document's own Word, Name and token; The document's own readings of an expression: how many, how deep, which are the same; The document's own Word; The landed parser: its state; a token taken, a fault, an amount, a name, a sign, the end; The landed parser: a fault made; a sign, the end, a number, a name; what begins; What is scanned: the document's own Lex; Plain mathematics of layer 6, third part: what is told one token behind the other, up to an error. No program in this text; Plain mathematics of layer 6, fourth part: the piece that stands at a place, and what is told of it. No program in this text. -/

import Derived.Test.YtfekhbeaphpelaaGreatDoorZ02
set_option maxRecDepth 100000
set_option maxHeartbeats 8000000
namespace Go.Proofs.YtfekhbeaphpelaaGreatDoor
open Go.RowKit Go.Lib
set_option linter.unusedVariables false
set_option linter.unusedSimpArgs false
theorem kinds(k:Int):(k=1∨k=2∨k=3∨k=4∨k=5∨k=6∨k=7∨k=8∨k=9∨k=10∨k=11∨k=12)∨
  ((k==1)=false∧(k==2)=false∧(k==3)=false∧(k==4)=false∧(k==5)=false∧(k==6)=false∧(k==7)=false∧(k==8)=false∧(k==9)=false∧(k==10)=false∧(k==11)=false∧(k==12)=false∧argsN k= -1∧mostN k=0∧isCond k=false):=by
 by_cases h:k=1∨k=2∨k=3∨k=4∨k=5∨k=6∨k=7∨k=8∨k=9∨k=10∨k=11∨k=12
 ·exact .inl h
 ·refine .inr ⟨?_, ?_, ?_, ?_, ?_, ?_, ?_, ?_, ?_, ?_, ?_, ?_, ?_, ?_, ?_⟩
  iterate 12 (·simp;omega)
  ·unfold argsN;rw[if_neg (by omega),if_neg (by omega),if_neg (by omega),if_neg (by omega)]
  ·unfold mostN;rw[if_neg (by omega),if_neg (by omega),if_neg (by omega)]
  ·unfold isCond;simp;omega
theorem rargs_any(k:Int)(w:World):Calls Tryz.prog 53 #[.int .i64 k] w fun e w'=>e= .returned (.int .i64 (argsN k))∧w=w':=by
 rcases kinds k with h|⟨k1,k2,k3,k4,k5,k6,k7,k8,k9,k10,k11,k12,ha,_⟩
 ·rcases h with rfl|rfl|rfl|rfl|rfl|rfl|rfl|rfl|rfl|rfl|rfl|rfl
  all_goals
   go_enter Tryz.func53,Tryz.ntmps53
   go_wp2_with (fail)
   go_ret
   exact⟨rfl,rfl⟩
 ·have HA:=yH ha
  clear ha
  go_enter Tryz.func53,Tryz.ntmps53
  go_wp2_with (fail)
  go_ret
  exact⟨ret_int HA.out.symm,rfl⟩
theorem args_as(k m:Int)(h:Hid (argsN k=m))(w:World):Calls Tryz.prog 53 #[.int .i64 k] w fun e w'=>e= .returned (.int .i64 m)∧w=w':=by rw[←h.out];exact rargs_any k w
theorem next_as(g:Nat)(L:List Int)(n v:Int)(L':List Int)(hv:Hid ((nx n L)=(v,L')))(hn:0<n)(hn':n≤9223372036854775807)(w:World)(h:SrcAt w g L):
  Calls Tryz.prog 52 #[.pointer (some ⟨g,0,none⟩),.int .i64 n] w fun e w'=>e= .returned (.int .i64 v)∧SrcAt w' g L'∧w.grownBy w' (some g)∧w'.heap.size=w.heap.size:=by
 have:=next_any g L n hn hn' w h
 rw[hv.out] at this
 exact this
def ExprAt(d:Nat):Prop:=∀(c:Bool) (L:List Int) (g:Nat) (w0 w:World),Rel w0 w→w0.heap.size≤g→SrcAt w g L→Calls Tryz.prog 33 #[.pointer (some ⟨g,0,none⟩),.int .i64 ((d:Int)+1),.bool c] w fun e w'=>
 ∃v:El,e= .returned (EV v)∧ExAt (fun k=>w.heap.size≤k) w' v (gen (d+1) c L).1∧SrcAt w' g (gen (d+1) c L).2∧w.grownBy w' (some g)
theorem expr_as{d:Nat}(E:ExprAt d)(c:Bool)(L:List Int)(x:Ex)(L':List Int)(hx:Hid (gen (d+1) c L=(x,L')))(g:Nat)(w0 w:World)(hr:Rel w0 w)(hg:w0.heap.size≤g)(hs:SrcAt w g L):
  Calls Tryz.prog 33 #[.pointer (some ⟨g,0,none⟩),.int .i64 ((d:Int)+1),.bool c] w fun e w'=>∃v:El,e= .returned (EV v)∧ExAt (fun k=>w.heap.size≤k) w' v x∧SrcAt w' g L'∧w.grownBy w' (some g):=by
 have:=E c L g w0 w hr hg hs
 rw[hx.out] at this
 exact this
theorem expr_cond(d:Nat)(hd:d≤10)(H:∀d',d=d'+1→ExprAt d')(L:List Int)(g:Nat)(w0 w:World)(hr:Rel w0 w)(hg0:w0.heap.size≤g)(hs:SrcAt w g L):
  Calls Tryz.prog 33 #[.pointer (some ⟨g,0,none⟩),.int .i64 ((d:Int)+1),.bool true] w fun e w'=>
   ∃v:El,e= .returned (EV v)∧ExAt (fun k=>w.heap.size≤k) w' v (gen (d+1) true L).1∧SrcAt w' g (gen (d+1) true L).2∧w.grownBy w' (some g):=by
 have hgl:=hs.lt
 have hA:=hr.self.alloc (.cells #[.int .i64 0,.int .i64 0,.string ⟨#[]⟩,.slice none 0 0] 52)
 have hS:=yH (hs.rel hA)
 have HB:=yH (Bk.new w 52 #[.int .i64 0,.int .i64 0,.string ⟨#[]⟩,.slice none 0 0])
 have HG:=yH (grown_rel (some g) hA)
 have HR:=yH (hr.alloc (.cells #[.int .i64 0,.int .i64 0,.string ⟨#[]⟩,.slice none 0 0] 52))
 clear hA
 cases d with
 |zero=>
  obtain⟨⟨v,L'⟩,hv⟩:∃p,nx 7 L=p:=⟨_,rfl⟩
  have HV:=yH hv
  have hb:=nx_bd 7 (by omega) L
  rw[hv] at hb
  have HF:=yH (show gen 1 true L=(.mk 11 v [] [],L') by simp[gen,hv])
  clear hv hs
  go_enter Tryz.func33,Tryz.ntmps33
  go_wp2_with (go_at_call 52;(with_reducible refine(next_as g L 7 v L' HV (by decide) (by decide) _ hS.out).mono ?_);rintro e w1 ⟨rfl,s1,g1,z1⟩;obtain⟨⟨c0,c1,c2,c3⟩,f0,f1,f2,f3⟩:=(HB.out.grown g1 (fun e=>by injection e;omega)).four)
  obtain⟨⟨r0,r1,r2,r3⟩,_⟩:=((HB.out.grown g1 (fun e=>by injection e;omega)).put4 (.int .i64 11) (.int .i64 v) (.string ⟨#[]⟩) (.slice none 0 0)).four
  refine bodyPost_ret (v:=EV (11,v,[],none,0,0)) (by simp[results,Tryz.results33,go_sem,r0,r1,r2,r3];rfl) rfl ⟨_,rfl, ?_, ?_, ?_⟩
  ·rw[HF.out];exact ExAt.leaf _ _ 11 v [] none 0 ⟨by decide,by decide⟩ ⟨by omega,by omega⟩ (by simp)
  ·rw[HF.out];exact s1.grown (put4_grown w1 w.heap.size _ _ _ _) (fun k e=>by cases e;exact hgl)
  ·exact grown_of (grown_trans HG.out g1) (put4_grown w1 w.heap.size _ _ _ _) (fun k e=>by cases e;exact Nat.le_refl _)
 |succ d=>
  have E:=H d rfl
  obtain⟨⟨v2,L2⟩,hv2⟩:∃p,nx 2 L=p:=⟨_,rfl⟩
  have HV2:=yH hv2
  have hb2:=nx_bd 2 (by omega) L
  rw[hv2] at hb2
  have hdd: ¬((d:Int)+1+1<2):=by omega
  by_cases h0:v2=0
  ·obtain⟨⟨v,L'⟩,hv⟩:∃p,nx 7 L2=p:=⟨_,rfl⟩
   have HV:=yH hv
   have hb:=nx_bd 7 (by omega) L2
   rw[hv] at hb
   have HF:=yH (show gen (d+2) true L=(.mk 11 v [] [],L') by simp[gen,hv2,hv,h0])
   have h0':(v2==0)=true:=by simpa using h0
   clear hv hv2 hs h0
   go_enter Tryz.func33,Tryz.ntmps33
   go_wp2_with (first
    |(go_at_call 52;(with_reducible refine(next_as g L 2 v2 L2 HV2 (by decide) (by decide) _ hS.out).mono ?_);rintro e w1 ⟨rfl,s1,g1,z1⟩)
    |(go_at_call 52;(with_reducible refine(next_as g L2 7 v L' HV (by decide) (by decide) _ s1).mono ?_);rintro e w2 ⟨rfl,s2,g2,z2⟩;obtain⟨⟨c0,c1,c2,c3⟩,f0,f1,f2,f3⟩:=(HB.out.grown (grown_trans g1 g2) (fun e=>by injection e;omega)).four))
   obtain⟨⟨r0,r1,r2,r3⟩,_⟩:=((HB.out.grown (grown_trans g1 g2) (fun e=>by injection e;omega)).put4 (.int .i64 11) (.int .i64 v) (.string ⟨#[]⟩) (.slice none 0 0)).four
   refine bodyPost_ret (v:=EV (11,v,[],none,0,0)) (by simp[results,Tryz.results33,go_sem,r0,r1,r2,r3];rfl) rfl ⟨_,rfl, ?_, ?_, ?_⟩
   ·rw[HF.out];exact ExAt.leaf _ _ 11 v [] none 0 ⟨by decide,by decide⟩ ⟨by omega,by omega⟩ (by simp)
   ·rw[HF.out];exact s2.grown (put4_grown w2 w.heap.size _ _ _ _) (fun k e=>by cases e;exact hgl)
   ·exact grown_of (grown_trans (grown_trans HG.out g1) g2) (put4_grown w2 w.heap.size _ _ _ _) (fun k e=>by cases e;exact Nat.le_refl _)
  ·obtain⟨⟨x,L3⟩,hx⟩:∃p,gen (d+1) false L2=p:=⟨_,rfl⟩
   obtain⟨⟨y,L4⟩,hy⟩:∃p,gen (d+1) false L3=p:=⟨_,rfl⟩
   have HF:=yH (show gen (d+2) true L=(.mk 12 0 [] [x,y],L4) by rw[gen,if_neg (by omega),hv2,if_neg h0,hx,hy])
   have h0':(v2==0)=false:=by simpa using h0
   have HX:=yH hx
   have HY:=yH hy
   have hw1:IntKind.i64.wrap ((d:Int)+1+1-1)=(d:Int)+1:=by rw[IntKind.wrap_i64];omega
   clear hv2 hs h0 hx hy
   go_enter Tryz.func33,Tryz.ntmps33
   go_wp2_with (first
    |(go_at_call 52;(with_reducible refine(next_as g L 2 v2 L2 HV2 (by decide) (by decide) _ hS.out).mono ?_);rintro e w1 ⟨rfl,s1,g1,z1⟩)
    |(go_at_call 33;(with_reducible refine(expr_as E false L2 x L3 HX g _ _ (HR.out.grown g1 (fun k e=>by cases e;exact hg0)) hg0 s1).mono ?_);rintro e w2 ⟨vx,rfl,ex,s2,g2⟩)
    |(go_at_call 33;(with_reducible refine(expr_as E false L3 y L4 HY g _ _ ((HR.out.grown g1 (fun k e=>by cases e;exact hg0)).grown g2 (fun k e=>by cases e;exact hg0)) hg0 s2).mono ?_);rintro e w3 ⟨vy,rfl,ey,s3,g3⟩;obtain⟨⟨c0,c1,c2,c3⟩,f0,f1,f2,f3⟩:=((HB.out.grown (grown_trans (grown_trans g1 g2) g3) (fun e=>by injection e;omega)).alloc (.cells #[.int .i64 vx.1,.int .i64 vx.2.1,.string (B vx.2.2.1),.slice vx.2.2.2.1 vx.2.2.2.2.1 vx.2.2.2.2.2,.int .i64 vy.1,.int .i64 vy.2.1,.string (B vy.2.2.1),.slice vy.2.2.2.1 vy.2.2.2.2.1 vy.2.2.2.2.2] 52)).four))
   have R2:=(HR.out.grown g1 (fun k e=>by cases e;exact hg0)).grown g2 (fun k e=>by cases e;exact hg0)
   have R3:=R2.grown g3 (fun k e=>by cases e;exact hg0)
   have ga:=grown_rel none (R3.self.alloc (.cells #[.int .i64 vx.1,.int .i64 vx.2.1,.string (B vx.2.2.1),.slice vx.2.2.2.1 vx.2.2.2.2.1 vx.2.2.2.2.2,.int .i64 vy.1,.int .i64 vy.2.1,.string (B vy.2.2.1),.slice vy.2.2.2.1 vy.2.2.2.2.1 vy.2.2.2.2.2] 52))
   have z0:(w.alloc (.cells #[.int .i64 0,.int .i64 0,.string ⟨#[]⟩,.slice none 0 0] 52)).heap.size=w.heap.size+1:=World.size_alloc ..
   have zz1:=g1.size
   have zz2:=g2.size
   have zz3:=g3.size
   obtain⟨gp,hgp⟩:∃gp,gp=put4_grown (w3.alloc (.cells #[.int .i64 vx.1,.int .i64 vx.2.1,.string (B vx.2.2.1),.slice vx.2.2.2.1 vx.2.2.2.2.1 vx.2.2.2.2.2,.int .i64 vy.1,.int .i64 vy.2.1,.string (B vy.2.2.1),.slice vy.2.2.2.1 vy.2.2.2.2.1 vy.2.2.2.2.2] 52)) w.heap.size (.int .i64 12) (.int .i64 0) (.string ⟨#[]⟩) (.slice (some ⟨w3.heap.size,0,none⟩) 2 2):=⟨_,rfl⟩
   clear hgp
   obtain⟨⟨r0,r1,r2,r3⟩,_⟩:=(((HB.out.grown (grown_trans (grown_trans g1 g2) g3) (fun e=>by injection e;omega)).alloc (.cells #[.int .i64 vx.1,.int .i64 vx.2.1,.string (B vx.2.2.1),.slice vx.2.2.2.1 vx.2.2.2.2.1 vx.2.2.2.2.2,.int .i64 vy.1,.int .i64 vy.2.1,.string (B vy.2.2.1),.slice vy.2.2.2.1 vy.2.2.2.2.1 vy.2.2.2.2.2] 52)).put4 (.int .i64 12) (.int .i64 0) (.string ⟨#[]⟩) (.slice (some ⟨w3.heap.size,0,none⟩) 2 2)).four
   refine bodyPost_ret (v:=EV (12,0,[],some ⟨w3.heap.size,0,none⟩,2,2)) (by simp[results,Tryz.results33,go_sem,r0,r1,r2,r3];rfl) rfl ⟨_,rfl, ?_, ?_, ?_⟩
   ·rw[HF.out]
    refine ExAt.two ⟨by decide,by decide⟩ ⟨by decide,by decide⟩ (Nat.zero_le _) ((Bk.new w3 52 (cellsEs [vx,vy]).toArray).grown gp (fun e=>by injection e;omega)) (show w.heap.size≤w3.heap.size by omega) ?_ ?_
    ·exact(((ex.grown (S':=fun k=>w1.heap.size≤k) g3 (fun k hk=>⟨hk,fun e=>by injection e;omega⟩)).grown (S':=fun k=>w1.heap.size≤k) ga (fun k hk=>⟨hk,fun e=>by cases e⟩)).grown gp (fun k hk=>⟨by omega,fun e=>by injection e;omega⟩))
    ·exact((ey.grown (S':=fun k=>w2.heap.size≤k) ga (fun k hk=>⟨hk,fun e=>by cases e⟩)).grown gp (fun k hk=>⟨by omega,fun e=>by injection e;omega⟩))
   ·rw[HF.out];exact(s3.grown ga (fun k e=>by cases e)).grown gp (fun k e=>by cases e;exact hgl)
   ·exact grown_of (grown_of (grown_trans (grown_trans (grown_trans HG.out g1) g2) g3) ga (fun k e=>by cases e)) gp (fun k e=>by cases e;exact Nat.le_refl _)
end Go.Proofs.YtfekhbeaphpelaaGreatDoor

namespace Go.Proofs.YtfekhbeaphpelaaGreatDoor
open Go
set_option linter.unusedVariables false
set_option linter.unusedSimpArgs false
section
variable {P:Program} {ops:Array Oper} {Q:Exit→Act→World→Prop} {md:Region.Mode} {S:World→Prop}
theorem held_take{i:Nat}{oi:Oper}{v:Value}(d:Option Tmp){fuel:Nat}{listed:Array Bool}{a:Act}{w:World}(hi:ops[i]?=some oi)(hd:oi.dst=d)
  (hs:Region.noSelect ops=true) (hf:Region.free md ops listed i=true) (hr:(Region.ready md ops listed).contains i=true)
  (hQ:∀c a w,Q (.panic c) (a.put d v) w→Q (.panic c) a w) (hy:YieldsIf P ops S oi v a) (hS:S w)
  (h:wpAnyH P md ops Q S fuel (listed.setIfInBounds i true) (a.put d v) w):wpAnyH P md ops Q S (fuel+1) listed a w:=by
 subst hd
 exact wpAnyH_take hi hs hf hr hQ hy hS h
theorem held_one{j:Nat}{o:Oper}{fuel:Nat}{listed:Array Bool}{a:Act}{w:World}(hr:Region.ready md ops listed=[j])(ho:ops[j]?=some o)
  (h:∀K':Act→World→Prop,Shut (∀a w,S w→(S w→wpAnyH P md ops Q S fuel (listed.setIfInBounds j true) a w)→K' a w)→if Region.wanted o (yielded ops a.tmps)=true then Oper.wp P o a w K' Q else K' (a.put o.dst undef) w):wpAnyH P md ops Q S (fuel+1) listed a w:=
 wpAnyH_ready hr (by simp) (AllReadyH.cons ho h AllReadyH.nil)
theorem held_two{j k:Nat}{o o':Oper}{fuel:Nat}{listed:Array Bool}{a:Act}{w:World}(hr:Region.ready md ops listed=[j,k])(ho:ops[j]?=some o)(ho':ops[k]?=some o')
  (h:∀K':Act→World→Prop,Shut (∀a w,S w→(S w→wpAnyH P md ops Q S fuel (listed.setIfInBounds j true) a w)→K' a w)→if Region.wanted o (yielded ops a.tmps)=true then Oper.wp P o a w K' Q else K' (a.put o.dst undef) w)
  (h':∀K':Act→World→Prop,Shut (∀a w,S w→(S w→wpAnyH P md ops Q S fuel (listed.setIfInBounds k true) a w)→K' a w)→if Region.wanted o' (yielded ops a.tmps)=true then Oper.wp P o' a w K' Q else K' (a.put o'.dst undef) w):wpAnyH P md ops Q S (fuel+1) listed a w:=
 wpAnyH_ready hr (by simp) (AllReadyH.cons ho h (AllReadyH.cons ho' h' AllReadyH.nil))
end
end Go.Proofs.YtfekhbeaphpelaaGreatDoor

namespace Go.Proofs.YtfekhbeaphpelaaGreatDoor
open Go.RowKit Go.Lib
set_option linter.unusedVariables false
set_option linter.unusedSimpArgs false
def num(n:Int):ByteArray:=B (itoa n)
theorem rdig_any(w0:World):∀(k:Nat) (n:Int),0≤n→n.toNat≤k→n≤9223372036854775807→∀w,Rel w0 w→
  Calls Tryz.prog 71 #[.int .i64 n] w fun e w'=>e= .returned (.string (B (decDigits n.toNat)))∧Rel w0 w':=by
 intro k
 induction k with
 |zero=>
  intro n h0 hk h1 w hr
  obtain rfl:n=0:=by omega
  have hconv:∀w:World,(convert 98 9 (.slice (some ⟨w.heap.size,0,none⟩) 1 1)).run Tryz.prog (w.alloc (.cells #[.int .u8 48] 5))= .ok (.string (B [dgt 0])) (w.alloc (.cells #[.int .u8 48] 5)):=fun w=>byte_string w 0 (by omega) (by omega)
  go_enter Tryz.func71,Tryz.ntmps71
  go_wp2_with (fail)
  go_ret
  exact⟨ret_str (by rw[dd_last (by omega) (by omega)];rfl),hr.alloc _⟩
 |succ k ih=>
  intro n h0 hk h1 w hr
  have b1:0≤n%10:=by omega
  have b2:n%10≤9:=by omega
  have hconv:=fun w:World=>byte_string w (n%10) b1 b2
  by_cases h:10≤n
  ·have HS:=yH (dd_step h0 h)
   have z1:=dd_size (n/10) (by omega)
   have z2:(B [dgt (n%10)]).size≤1:=Nat.le_refl _
   have z3: ¬9223372036854775807<(B (decDigits (n/10).toNat)).size+(B [dgt (n%10)]).size:=by omega
   go_enter Tryz.func71,Tryz.ntmps71
   go_wp2_with ((go_at_call 71;(with_reducible refine(ih (n/10) (by omega) (by omega) (by omega) _ (hr.alloc _)).mono ?_);rintro e w' ⟨rfl,hr'⟩))
   go_ret
   exact⟨ret_str (by rw[HS.out,B_append]),hr'⟩
  ·have HS:=yH (dd_last h0 h)
   go_enter Tryz.func71,Tryz.ntmps71
   go_wp2_with (fail)
   go_ret
   exact⟨ret_str (by rw[HS.out]),hr.alloc _⟩
theorem digits_any(n:Int)(h0:0≤n)(h1:n≤9223372036854775807)(w0 w:World)(hr:Rel w0 w):
  Calls Tryz.prog 71 #[.int .i64 n] w fun e w'=>e= .returned (.string (B (decDigits n.toNat)))∧Rel w0 w':=rdig_any w0 _ n h0 (Nat.le_refl _) h1 w hr
theorem dash(x:List UInt8):(⟨#[45]⟩:ByteArray)++B x=B (45::x):=B_append [45] x
def tx(a:Int):ByteArray:=B (txt a)
theorem num_pos(n:Int)(h:0≤n):num n=B (decDigits n.toNat):=by unfold num itoa;rw[if_neg (by omega)]
theorem num_size(n:Int)(h:0≤n)(h':n≤9223372036854775807):(num n).size≤19:=by rw[num_pos n h];exact dd_size n h'
theorem tx_no{a:Int}(h:rt a=false):(⟨#[]⟩:ByteArray)=tx a:=by unfold tx txt;rw[h];rfl
theorem tx_parts(a:Int)(h:0≤a)(h':a≤1000000000000):B (decDigits (a/100).toNat)++(⟨#[46]⟩:ByteArray)++B (decDigits (a/10%10).toNat)++B (decDigits (a%10).toNat)=tx a:=by
 have e:(⟨#[46]⟩:ByteArray)=B [46]:=rfl
 rw[e,B_append,B_append,B_append]
 unfold tx txt
 rw[rt_yes (by omega) h',if_pos rfl,if_neg (by omega)]
 unfold pos
 rw[show(a/100).toNat=a.natAbs/100 by omega,show(a/10%10).toNat=a.natAbs/10%10 by omega,show(a%10).toNat=a.natAbs%10 by omega]
 simp
theorem tx_neg(a:Int)(h:a<0)(h': -1000000000000≤a):(⟨#[45]⟩:ByteArray)++tx (-a)=tx a:=by
 unfold tx
 rw[dash]
 unfold txt
 rw[rt_yes (a:= -a) (by omega) (by omega),rt_yes (a:=a) h' (by omega),if_pos rfl,if_pos rfl,if_neg (by omega),if_pos h,show(-a).natAbs=a.natAbs by omega]
theorem tx_size(a:Int):(tx a).size≤43:=by
 unfold tx txt
 rw[B_size]
 split
 ·rename_i h
  have hb:=rt_iff.1 h
  have h1:(pos a.natAbs).length≤22:=by
   unfold pos
   have:=nd_le 12 (a.natAbs/100) (by have e:10^12=1000000000000:=by decide
                                     omega) (by omega)
   rw[decDigits_one (show a.natAbs/10%10<10 by omega),decDigits_one (show a.natAbs%10<10 by omega)]
   simp;omega
  split<;>simp<;>omega
 ·simp
theorem rtext_pos(a:Int)(h0:0≤a)(h1:a≤1000000000000)(w0 w:World)(hr:Rel w0 w):
  Calls Tryz.prog 50 #[.int .i64 a] w fun e w'=>e= .returned (.string (tx a))∧Rel w0 w':=by
 have z1:=dd_size (a/100) (by omega)
 have z2:=dd_size (a/10%10) (by omega)
 have z3:=dd_size (a%10) (by omega)
 have HS:=yH (tx_parts a h0 h1)
 go_enter Tryz.func50,Tryz.ntmps50
 go_wp2_with ((go_at_call 71;(with_reducible refine(digits_any _ (by omega) (by omega) _ _ (by assumption)).mono ?_);rintro e w' ⟨rfl,hr'⟩))
 go_ret
 exact⟨ret_str HS.out,by assumption⟩
theorem rtext_any(a:Int)(h0: -9223372036854775808≤a)(h1:a≤9223372036854775807)(w0 w:World)(hr:Rel w0 w):
  Calls Tryz.prog 50 #[.int .i64 a] w fun e w'=>e= .returned (.string (tx a))∧Rel w0 w':=by
 by_cases b1:a< -1000000000000
 ·have HS:=yH (tx_no (a:=a) (rt_no (.inl b1)))
  go_enter Tryz.func50,Tryz.ntmps50
  go_wp2_with (fail)
  go_ret
  exact⟨ret_str HS.out,hr⟩
 ·by_cases b2:1000000000000<a
  ·have HS:=yH (tx_no (a:=a) (rt_no (.inr b2)))
   go_enter Tryz.func50,Tryz.ntmps50
   go_wp2_with (fail)
   go_ret
   exact⟨ret_str HS.out,hr⟩
  ·by_cases hn:0≤a
   ·exact rtext_pos a hn (by omega) w0 w hr
   ·have HS:=yH (tx_neg a (by omega) (by omega))
    have z1:=tx_size (-a)
    go_enter Tryz.func50,Tryz.ntmps50
    go_wp2_with ((go_at_call 50;(with_reducible refine(rtext_pos _ (by omega) (by omega) _ _ (by assumption)).mono ?_);rintro e w' ⟨rfl,hr'⟩))
    go_ret
    exact⟨ret_str HS.out,by assumption⟩
theorem drop_step(s:ByteArray)(pos:Nat)(h:pos<s.size):s.data.toList.drop pos=(s[pos]'h)::s.data.toList.drop (pos+1):=by
 rw[List.drop_eq_getElem_cons (by simpa using h)]
 rfl
theorem drop_end(s:ByteArray)(pos:Nat)(h: ¬pos<s.size):s.data.toList.drop pos=[]:=by
 apply List.drop_eq_nil_of_le
 have:s.data.toList.length=s.size:=by simp
 omega
theorem B_zero(c:UInt8)(t:List UInt8)(h:0<(B (c::t)).size):(B (c::t))[0]'h=c:=rfl
theorem rletter_any(c:UInt8)(w:World):Calls Tryz.prog 57 #[.int .u8 (c.toNat:Int)] w fun e w'=>e= .returned (.bool (isL c))∧w=w':=by
 by_cases h1:97≤c.toNat<;>by_cases h2:c.toNat≤122
 all_goals
  go_enter Tryz.func57,Tryz.ntmps57
  go_wp2
  all_goals
   go_ret
   exact⟨ret_bool (Bool.eq_iff_iff.2 (by simp[isL];omega)),rfl⟩
theorem rdigit_any(c:UInt8)(w:World):Calls Tryz.prog 58 #[.int .u8 (c.toNat:Int)] w fun e w'=>e= .returned (.bool (isD c))∧w=w':=by
 by_cases h1:48≤c.toNat<;>by_cases h2:c.toNat≤57
 all_goals
  go_enter Tryz.func58,Tryz.ntmps58
  go_wp2
  all_goals
   go_ret
   exact⟨ret_bool (Bool.eq_iff_iff.2 (by simp[isD];omega)),rfl⟩
theorem list_of{a b:ByteArray}:(a.toList==b.toList)=true↔a=b:=by
 rw[beq_iff_eq]
 have e1:=B_toList a.data.toList
 have e2:=B_toList b.data.toList
 rw[B_of] at e1 e2
 rw[e1,e2]
 constructor
 ·intro h;rw[←B_of a,h,B_of]
 ·intro h;rw[h]
theorem list_ne{a b:ByteArray}(h:a≠b):(a.toList==b.toList)=false:=by
 cases e:(a.toList==b.toList)
 ·rfl
 ·exact absurd (list_of.1 e) h
theorem word_yes{s:ByteArray}{j:Nat}(hj:j<11)(h:B (theWords.getD j [])=s):isWord s.data.toList=true:=by
 unfold isWord
 rw[List.any_eq_true]
 have hl:theWords.length=11:=rfl
 refine⟨theWords.getD j [], ?_, ?_⟩
 ·rw[List.getD_eq_getElem?_getD,List.getElem?_eq_getElem (by omega)];exact List.getElem_mem _
 ·rw[←h,B_list];simp
theorem word_no{s:ByteArray}(h:∀j<11,B (theWords.getD j [])≠s):isWord s.data.toList=false:=by
 unfold isWord
 rw[List.any_eq_false]
 intro x hx
 obtain⟨j,hj,rfl⟩:=List.getElem_of_mem hx
 have hl:theWords.length=11:=rfl
 intro he
 refine h j (by omega) ?_
 rw[List.getD_eq_getElem?_getD,List.getElem?_eq_getElem hj]
 have he':theWords[j]=s.data.toList:=by simpa using he
 show B theWords[j]=s
 rw[he',B_of]
def wordCells:Array Value:=(theWords.map fun l=>Value.string (B l)).toArray
theorem word_cell{w:World}{g:Nat}(h:Bk w g 9 wordCells)(j:Nat)(hj:j<11):w.cell? ⟨g,j,none⟩=some (.string (B (theWords.getD j []))):=by
 have hl:theWords.length=11:=rfl
 rw[h.cell]
 unfold wordCells
 rw[List.getElem?_toArray,List.getElem?_map,List.getElem?_eq_getElem (by omega),List.getD_eq_getElem?_getD,List.getElem?_eq_getElem (by omega)]
 rfl
theorem rword_any(s:ByteArray)(w0 w:World)(hr:Rel w0 w):
  Calls Tryz.prog 80 #[.string s] w fun e w'=>e= .returned (.bool (isWord s.data.toList))∧Rel w0 w':=by
 have HB:=yH (show Bk (w.alloc (.cells wordCells 9)) w.heap.size 9 wordCells from Bk.new w _ _)
 have HR:=yH (hr.alloc (.cells wordCells 9))
 go_enter Tryz.func80,Tryz.ntmps80
 go_wp2_with (fail)
 go_loopw [4] (fun i wr=>∃j:Nat,j≤11∧i= .int .i64 j∧Hid (∀k<j,B (theWords.getD k [])≠s)∧Hid (wr=w.alloc (.cells wordCells 9))) (fun i _=>11-(RowKit.intOf i).toNat)
 case atStart=>exact⟨0,by omega,rfl,yH (fun k hk=>absurd hk (by omega)),yH rfl⟩
 case round=>
  obtain⟨j,hj,rfl,HN,HW⟩:=hrel
  have hc:=HB.out
  rw[←HW.out] at hc
  by_cases hlt:j<11
  ·have c:=word_cell hc j hlt
   obtain⟨X,hX⟩:∃X,B (theWords.getD j [])=X:=⟨_,rfl⟩
   rw[hX] at c
   have HX:=yH hX
   clear hX
   by_cases he:X=s
   ·have HY:=yH (word_yes hlt (HX.out.trans he))
    have k1:=list_of.2 he
    clear he hc
    go_wp2_with (fail)
    go_ret
    exact⟨ret_bool HY.out.symm,by rw[HW.out];exact HR.out⟩
   ·have k1:=list_ne he
    have HN2:Hid (∀k<j+1,B (theWords.getD k [])≠s):=yH (fun k hk=>by
     rcases Nat.lt_or_ge k j with h|h
     ·exact HN.out k h
     ·obtain rfl:k=j:=by omega
      rw[HX.out];exact he)
    clear he hc
    go_wp2_with (fail)
    go_roundw
    case rel=>exact⟨j+1,by omega,by go_num,HN2,HW⟩
    case measure=>simp[RowKit.intOf];omega
  ·obtain rfl:j=11:=by omega
   have HY:=yH (word_no HN.out)
   clear hc
   go_wp2_with (fail)
   go_ret
   exact⟨ret_bool HY.out.symm,by rw[HW.out];exact HR.out⟩
theorem B_cons_size(c:UInt8)(t:List UInt8):(B (c::t)).size=t.length+1:=by rw[B_size];rfl
def LD(c:UInt8):Bool:=isL c||isD c
theorem name_eq(c:UInt8)(t:List UInt8):isName (c::t)=(decide (t.length+1≤12)&&isL c&& !isWord (c::t)&&(c::t).all LD):=by
 unfold isName LD;simp
theorem all_bad{l:List UInt8}(j:Nat)(h:j<l.length)(hx:LD l[j]=false):l.all LD=false:=by
 rw[List.all_eq_false]
 exact⟨l[j],List.getElem_mem h,by simp[hx]⟩
theorem all_more{l:List UInt8}(j:Nat)(h:j<l.length)(ha:(l.take j).all LD=true)(hx:LD l[j]=true):(l.take (j+1)).all LD=true:=by
 rw[List.take_succ_eq_append_getElem h,List.all_append,ha];simp[hx]
theorem rname_list(l:List UInt8)(hl:l.length≤9223372036854775807)(w0 w:World)(hr:Rel w0 w):
  Calls Tryz.prog 62 #[.string (B l)] w fun e w'=>e= .returned (.bool (isName l))∧Rel w0 w':=by
 cases l with
 |nil=>
  have HT:=B_toList []
  go_enter Tryz.func62,Tryz.ntmps62
  go_wp2_with (fail)
  go_ret
  exact⟨ret_bool rfl,hr⟩
 |cons c t=>
  have HT:=B_toList (c::t)
  have HB:=B_cons_size c t
  have H0:=B_zero c t
  by_cases h12:t.length+1≤12
  ·have z: ¬(12:Int)<(t.length:Int)+1:=by omega
   cases hc:isL c
   ·have HF:=yH (show isName (c::t)=false by rw[name_eq,hc];simp)
    clear hl h12
    go_enter Tryz.func62,Tryz.ntmps62
    go_wp2_with (go_at_call 57;(with_reducible refine(bool_at false (rletter_any c _) (yH hc)).mono ?_);rintro e w' ⟨rfl,rfl⟩)
    go_ret
    exact⟨ret_bool HF.out.symm,hr⟩
   ·cases hw:isWord (c::t)
    ·have HC:=yH hc
     have HWd:=yH (show isWord (B (c::t)).data.toList=false by rw[B_list];exact hw)
     have HW0:=yH hw
     have HR:=yH hr
     clear hw hc
     go_enter Tryz.func62,Tryz.ntmps62
     go_wp2_with (first
      |(go_at_call 57;(with_reducible refine(bool_at true (rletter_any c _) HC).mono ?_);rintro e w' ⟨rfl,rfl⟩)
      |(go_at_call 80;(with_reducible refine(bool_at false (rword_any _ _ _ hr.self) HWd).mono ?_);rintro e w1 ⟨rfl,h1⟩))
     go_loopw [3] (fun i wr=>∃j:Nat,j≤t.length+1∧i= .int .i64 j∧Hid (((c::t).take j).all LD=true)∧wr=w1) (fun i _=>t.length+1-(RowKit.intOf i).toNat)
     case atStart=>exact⟨0,by omega,rfl,yH rfl,rfl⟩
     case round=>
      obtain⟨j,hj,rfl,HA,rfl⟩:=hrel
      by_cases hlt:j<t.length+1
      ·have hlt':j<(c::t).length:=by simpa using hlt
       obtain⟨x,hx⟩:∃x,x=(c::t)[j]:=⟨_,rfl⟩
       have hg:∀h,(B (c::t))[j]'h=x:=fun h=>by rw[hx];rfl
       have HX:=yH hx
       clear hx
       cases hL:isL x<;>cases hD:isD x
       ·have HF:=yH (show isName (c::t)=false by rw[name_eq,all_bad j hlt' (by rw[←HX.out];simp[LD,hL,hD])];simp)
        have HL:=yH hL
        have HD:=yH hD
        clear hL hD
        go_wp2_with (first
             |(go_at_call 57;(with_reducible refine(bool_at false (rletter_any x _) HL).mono ?_);rintro e w' ⟨rfl,rfl⟩)
             |(go_at_call 58;(with_reducible refine(bool_at false (rdigit_any x _) HD).mono ?_);rintro e w' ⟨rfl,rfl⟩))
        go_ret
        exact⟨ret_bool HF.out.symm,HR.out.trans h1⟩
       all_goals
        have HM:=yH (all_more j hlt' HA.out (by rw[←HX.out];simp[LD,hL,hD]))
        have HL:=yH hL
        have HD:=yH hD
        clear hL hD
        go_wp2_with (first
             |(go_at_call 57;(with_reducible refine(bool_at _ (rletter_any x _) HL).mono ?_);rintro e w' ⟨rfl,rfl⟩)
             |(go_at_call 58;(with_reducible refine(bool_at _ (rdigit_any x _) HD).mono ?_);rintro e w' ⟨rfl,rfl⟩))
        go_roundw
        case rel=>exact⟨j+1,by omega,by go_num,HM,trivial⟩
        case measure=>simp[RowKit.intOf];omega
      ·obtain rfl:j=t.length+1:=by omega
       have HY:=yH (show isName (c::t)=true by
        have ha:=HA.out
        rw[List.take_of_length_le (by simp)] at ha
        rw[name_eq,ha,HC.out,HW0.out,decide_eq_true h12];rfl)
       go_wp2_with (fail)
       go_ret
       exact⟨ret_bool HY.out.symm,HR.out.trans h1⟩
    ·have HC:=yH hc
     have HWd:=yH (show isWord (B (c::t)).data.toList=true by rw[B_list];exact hw)
     have HF:=yH (show isName (c::t)=false by rw[name_eq,hw];simp)
     clear hw hc
     go_enter Tryz.func62,Tryz.ntmps62
     go_wp2_with (first
      |(go_at_call 57;(with_reducible refine(bool_at true (rletter_any c _) HC).mono ?_);rintro e w' ⟨rfl,rfl⟩)
      |(go_at_call 80;(with_reducible refine(bool_at true (rword_any _ _ _ hr.self) HWd).mono ?_);rintro e w1 ⟨rfl,h1⟩))
     go_ret
     exact⟨ret_bool HF.out.symm,hr.trans h1⟩
  ·have HF:=yH (show isName (c::t)=false by rw[name_eq,decide_eq_false h12];simp)
   have z:(12:Int)<(t.length:Int)+1:=by omega
   clear h12
   go_enter Tryz.func62,Tryz.ntmps62
   go_wp2_with (fail)
   go_ret
   exact⟨ret_bool HF.out.symm,hr⟩
theorem rname_any(s:ByteArray)(hs:s.size≤9223372036854775807)(w0 w:World)(hr:Rel w0 w):
  Calls Tryz.prog 62 #[.string s] w fun e w'=>e= .returned (.bool (isName s.data.toList))∧Rel w0 w':=by
 have:=rname_list s.data.toList (by simpa using hs) w0 w hr
 rwa [B_of] at this
theorem tok_word{l:List UInt8}(h:isWord l=true∨isName l=true):tokOf l=some (1,0):=by
 unfold tokOf;rw[if_pos];rcases h with h|h<;>simp[h]
theorem tok_count{l:List UInt8}(h:isWord l=false)(h':isName l=false)(hc:0≤cnt l 100000):tokOf l=some (2,cnt l 100000):=by
 unfold tokOf;rw[if_neg (by simp[h,h']),if_pos hc]
theorem tok_money{l:List UInt8}(h:isWord l=false)(h':isName l=false)(hc: ¬0≤cnt l 100000):tokOf l=(prs l).map fun a=>(3,a):=by
 unfold tokOf;rw[if_neg (by simp[h,h']),if_neg hc];cases prs l<;>rfl
theorem rcond_any(k:Int)(w:World):Calls Tryz.prog 41 #[.int .i64 k] w fun e w'=>e= .returned (.bool (isCond k))∧w=w':=by
 cases h1:(k==11)<;>cases h2:(k==12)
 all_goals
  have HF:=yH (show isCond k=(_||_) from rfl)
  rw[h1,h2] at HF
  go_enter Tryz.func41,Tryz.ntmps41
  go_wp2_with (fail)
  go_ret
  exact⟨ret_bool HF.out.symm,rfl⟩
theorem rmost_any(k:Int)(w:World):Calls Tryz.prog 63 #[.int .i64 k] w fun e w'=>e= .returned (.int .i64 (mostN k))∧w=w':=by
 rcases kinds k with h|⟨k1,k2,k3,k4,k5,k6,k7,k8,k9,k10,k11,k12,_,ha,_⟩
 ·rcases h with rfl|rfl|rfl|rfl|rfl|rfl|rfl|rfl|rfl|rfl|rfl|rfl
  all_goals
   go_enter Tryz.func63,Tryz.ntmps63
   go_wp2_with (fail)
   go_ret
   exact⟨rfl,rfl⟩
 ·have HA:=yH ha
  clear ha
  go_enter Tryz.func63,Tryz.ntmps63
  go_wp2_with (fail)
  go_ret
  exact⟨ret_int HA.out.symm,rfl⟩
theorem sizes_take(l:List Ex)(j:Nat)(h:j<l.length):sizes (l.take (j+1))=sizes (l.take j)+size l[j]:=by
 rw[List.take_succ_eq_append_getElem h,sizes_append,sizes_cons,sizes_nil];omega
theorem ExAt.arg{S:Nat→Prop}{w wr:World}{A:Option Addr}{es:List El}{l:List Ex}(hrow:RowE S w A es)(hsub:∀i (h:i<es.length) (h':i<l.length),ExAt S w es[i] l[i])(hl:es.length=l.length)(hr:Rel w wr)(j:Nat)(hj:j<l.length):
  ∃(g off:Nat) (k n:Int) (nm:List UInt8) (A':Option Addr) (m c:Nat),A=some ⟨g,off,none⟩∧wr.cell? ⟨g,off+j*4,none⟩=some (.int .i64 k)∧wr.cell? ⟨g,off+j*4+1,none⟩=some (.int .i64 n)∧wr.cell? ⟨g,off+j*4+2,none⟩=some (.string (B nm))∧wr.cell? ⟨g,off+j*4+3,none⟩=some (.slice A' m c)∧ExAt S wr (k,n,nm,A',m,c) l[j]:=by
 obtain⟨g,off,e,hl2,_,h0,h1,h2,h3⟩:=hrow j (by omega)
 have hs:=(hsub j (by omega) hj).rel hr
 generalize es[j]=e0 at*
 obtain⟨k,n,nm,A',m,c⟩:=e0
 have hk:∀i,wr.cell? ⟨g,i,none⟩=w.cell? ⟨g,i,none⟩:=fun i=>hr.2.cell (p:=⟨g,i,none⟩) hl2
 exact⟨g,off,k,n,nm,A',m,c,e,by rw[hk];exact h0,by rw[hk];exact h1,by rw[hk];exact h2,by rw[hk];exact h3,hs⟩
theorem rsize_any:∀(x:Ex) (S:Nat→Prop) (e:El) (w0 w:World),Rel w0 w→ExAt S w e x→size x≤1000000→
  Calls Tryz.prog 42 #[EV e] w fun r w'=>r= .returned (.int .i64 (size x:Int))∧Rel w0 w':=ex_ind fun k n nm l ih S e w0 w hr h hz=>by
 obtain⟨A,c,es,rfl,hk,hn,hm,hl,hrow,hsub⟩:=h.open
 have HRow:=yH hrow
 have HSub:=yH hsub
 have HIH:=yH (fun j hj=>ih _ (List.getElem_mem (l:=l) (n:=j) hj))
 have HR:=yH hr
 rw[size_mk] at hz
 have HZ:=yH (size_mk k n nm l)
 have hll:l.length≤1000000:=by
  have:∀l:List Ex,l.length≤sizes l:=fun l=>by
   induction l with
   |nil=>simp
   |cons x t ih=>rw[sizes_cons,List.length_cons];have:=size_pos x;omega
  have:=this l;omega
 have HB:=yH (Bk.new w 52 #[.int .i64 k,.int .i64 n,.string (B nm),.slice A l.length c])
 have HA:=yH (hr.self.alloc (.cells #[.int .i64 k,.int .i64 n,.string (B nm),.slice A l.length c] 52))
 obtain⟨W,hW⟩:∃W,w.alloc (.cells #[.int .i64 k,.int .i64 n,.string (B nm),.slice A l.length c] 52)=W:=⟨_,rfl⟩
 rw[hW] at HB HA
 have HW:=yH hW
 clear hrow hsub ih h hW
 go_enter Tryz.func42,Tryz.ntmps42
 go_wp2_with (fail)
 rw[HW.out]
 go_loopw [3,4] (fun n i wr=>∃j:Nat,j≤l.length∧i= .int .i64 (j:Int)∧Hid (n= .int .i64 ((1+sizes (l.take j):Nat):Int))∧Rel W wr) (fun _ i _=>l.length-(RowKit.intOf i).toNat)
 case atStart=>exact⟨0,by omega,rfl,yH (by simp[sizes_nil]),(HR.out.trans HA.out).self⟩
 case round=>
  obtain⟨j,hj,rfl,HN,hRw⟩:=hrel
  have hb:=HB.out.rel hRw
  obtain⟨⟨c0,c1,c2,c3⟩,_⟩:=hb.four
  obtain⟨q,hq⟩:∃q:Nat,1+sizes (l.take j)=q:=⟨_,rfl⟩
  have hn':=HN.out
  rw[hq] at hn'
  subst hn'
  have HQ:=yH hq
  have HRw:=yH hRw
  clear hb hq
  by_cases hlt:j<l.length
  ·obtain⟨g,off,k',n',nm',A',m',c',hA,a0,a1,a2,a3,ha⟩:=ExAt.arg HRow.out HSub.out hl (HA.out.trans hRw) j hlt
   subst hA
   have hsz:size l[j]+q≤1000000:=by
    have e1:=sizes_take l j hlt
    have e2:sizes (l.take (j+1))≤sizes l:=by
     have:sizes l=sizes (l.take (j+1))+sizes (l.drop (j+1)):=by rw[←sizes_append,List.take_append_drop]
     omega
    have:=HQ.out;omega
   obtain⟨sj,hsj⟩:∃s,size l[j]=s:=⟨_,rfl⟩
   have HNx:=yH (show 1+sizes (l.take (j+1))=q+sj by rw[sizes_take l j hlt,hsj];have:=HQ.out;omega)
   rw[hsj] at hsz
   have HC:=yH (HIH.out j hlt S (k',n',nm',A',m',c') wr wr ((HR.out.trans HA.out).trans hRw).self ha (by rw[hsj];omega))
   rw[hsj] at HC
   clear ha hsj
   go_wp2_with (go_at_call 42;(with_reducible refine HC.out.mono ?_);rintro e w2 ⟨rfl,h2⟩)
   go_roundw
   case rel=>exact⟨j+1,by omega,by go_num,yH (by rw[HNx.out];go_num),HRw.out.trans h2⟩
   case measure=>simp[RowKit.intOf];omega
  ·obtain rfl:j=l.length:=by omega
   have HF:=yH (show size (.mk k n nm l)=q by have:=HQ.out;rw[List.take_length] at this;rw[size_mk,this])
   go_wp2_with (fail)
   go_ret
   exact⟨ret_int (by rw[HF.out]),(HR.out.trans HA.out).trans HRw.out⟩
theorem wordK_other{k:Int}(h:(k==1)=false∧(k==2)=false∧(k==3)=false∧(k==5)=false∧(k==6)=false∧(k==7)=false∧(k==8)=false∧(k==9)=false∧(k==10)=false∧(k==11)=false∧(k==12)=false):wordK k=[]:=by
 simp only[beq_eq_false_iff_ne] at h
 unfold wordK
 obtain⟨h1,h2,h3,h5,h6,h7,h8,h9,h10,h11,h12⟩:=h
 rw[if_neg h1,if_neg h2,if_neg h3,if_neg h5,if_neg h6,if_neg h7,if_neg h8,if_neg h9,if_neg h10,if_neg h11,if_neg h12]
def wordCells7:Array Value:= #[.string ⟨#[]⟩,.string ⟨#[108,111,119,101,115,116]⟩,.string ⟨#[115,101,99,111,110,100]⟩,.string ⟨#[102,114,111,109]⟩,.string ⟨#[]⟩,.string ⟨#[108,101,115,115]⟩,.string ⟨#[99,117,116]⟩,.string ⟨#[109,105,110]⟩,.string ⟨#[109,97,120]⟩,.string ⟨#[101,108,115,101]⟩,.string ⟨#[105,102]⟩,.string ⟨#[109,111,114,101]⟩,.string ⟨#[97,98,111,118,101]⟩]
theorem rword7_any(k:Int)(hk:i64 k)(w0 w:World)(hr:Rel w0 w):
  Calls Tryz.prog 49 #[.int .i64 k] w fun e w'=>e= .returned (.string (B (wordK k)))∧Rel w0 w':=by
 have k0:=hk.1
 have k9:=hk.2
 rcases kinds k with h|⟨k1,k2,k3,k4,k5,k6,k7,k8,k9,k10,k11,k12,_⟩
 ·rcases h with rfl|rfl|rfl|rfl|rfl|rfl|rfl|rfl|rfl|rfl|rfl|rfl
  all_goals
   have HR:=yH (hr.alloc (.cells wordCells7 9))
   go_enter Tryz.func49,Tryz.ntmps49
   go_wp2_with (fail)
   go_ret
   exact⟨rfl,HR.out⟩
 ·have HE:=yH (wordK_other ⟨k1,k2,k3,k5,k6,k7,k8,k9,k10,k11,k12⟩)
  have HR:=yH (hr.alloc (.cells wordCells7 9))
  have hw:k<0∨(¬k<0∧13≤k)∨k=0:=by simp only[beq_eq_false_iff_ne] at*;omega
  clear k1 k2 k3 k4 k5 k6 k7 k8 k9 k10 k11 k12
  rcases hw with h|⟨h,h2⟩|rfl
  all_goals
   go_enter Tryz.func49,Tryz.ntmps49
   go_wp2_with (fail)
   go_ret
   exact⟨ret_str (by rw[HE.out];rfl),HR.out⟩
abbrev FLT(c p:Int):Ending:= .panicked [{v:= .iface 122 (.agg #[.int .i64 c,.int .i64 p]),recovered:=false}]
def FineP(ts:List Tok):Prop:=(∀t∈ts,okP t∧i64 t.1∧i64 t.2.2.1∧i64 t.2.2.2∧t.2.1.length≤100)∧ts.length≤100000∧∃us p,ts=us++[(5,[],0,p)]
theorem FineP.ne{ts:List Tok}(h:FineP ts):0<ts.length:=by
 obtain⟨_,_,us,p,rfl⟩:=h;simp
theorem FineP.tail{ts:List Tok}(h:FineP ts)(hn:ts.tail≠[]):FineP ts.tail:=by
 obtain⟨h1,h2,us,p,rfl⟩:=h
 refine⟨fun t ht=>h1 t (List.mem_of_mem_tail ht),by rw[List.length_tail];omega, ?_⟩
 cases us with
 |nil=>exact absurd rfl hn
 |cons t r=>exact⟨r,p,rfl⟩
theorem FineP.head{ts:List Tok}(h:FineP ts):okP (hdT ts)∧i64 (hdT ts).1∧i64 (hdT ts).2.2.1∧i64 (hdT ts).2.2.2∧(hdT ts).2.1.length≤100:=by
 have hn:=h.ne
 cases ts with
 |nil=>simp at hn
 |cons t r=>exact h.1 t (List.mem_cons_self ..)
theorem FineP.last{ts:List Tok}(h:FineP ts)(h5:(hdT ts).1≠5∨(hdT ts).2.1≠[]):ts.tail≠[]:=by
 obtain⟨_,_,us,p,rfl⟩:=h
 cases us with
 |nil=>simp[hdT] at h5
 |cons t r=>simp
theorem FineP.oks{ts:List Tok}(h:FineP ts):∀t∈ts,okP t:=fun t ht=>(h.1 t ht).1
def StP(V w:World)(g:Nat)(ts:List Tok)(a:Nat):Prop:=
 ∃(A:Option Addr) (c:Nat),Rel V w∧V.heap.size≤g∧ToksAt V A ts∧FineP ts∧ts.length≤c∧c≤9223372036854775807∧a≤100∧Bk w g 125 #[.slice A ts.length c,.int .i64 a]
theorem StP.lt{V w:World}{g a:Nat}{ts:List Tok}(h:StP V w g ts a):g<w.heap.size:=by
 obtain⟨_,_,_,_,_,_,_,_,_,hb⟩:=h;exact hb.lt
theorem StP.fine{V w:World}{g a:Nat}{ts:List Tok}(h:StP V w g ts a):FineP ts:=by
 obtain⟨_,_,_,_,_,hf,_⟩:=h;exact hf
theorem StP.V{V w:World}{g a:Nat}{ts:List Tok}(h:StP V w g ts a):Rel V w∧V.heap.size≤g:=by
 obtain⟨_,_,hr,hg,_⟩:=h;exact⟨hr,hg⟩
theorem StP.rel{V w w':World}{g a:Nat}{ts:List Tok}(h:StP V w g ts a)(hr:Rel w w'):StP V w' g ts a:=by
 obtain⟨A,c,h1,h2,h3,h4,h5,h6,h7,h8⟩:=h
 exact⟨A,c,h1.trans hr,h2,h3,h4,h5,h6,h7,h8.rel hr⟩
theorem StP.grown{V w w':World}{g a:Nat}{ts:List Tok}(h:StP V w g ts a){b:Option Nat}(hg:w.grownBy w' b)(hb:some g≠b)(hV:∀k,b=some k→V.heap.size≤k):StP V w' g ts a:=by
 obtain⟨A,c,h1,h2,h3,h4,h5,h6,h7,h8⟩:=h
 exact⟨A,c,h1.grown hg hV,h2,h3,h4,h5,h6,h7,h8.grown hg hb⟩
theorem StP.around{V w:World}{g a:Nat}{ts:List Tok}(h:StP V w g ts a)(a':Nat)(ha:a'≤100):StP V (w.setCell ⟨g,1,none⟩ (.int .i64 a')) g ts a'∧w.grownBy (w.setCell ⟨g,1,none⟩ (.int .i64 a')) (some g):=by
 obtain⟨A,c,h1,h2,h3,h4,h5,h6,h7,h8⟩:=h
 exact⟨⟨A,c,h1.setCell h2 _,h2,h3,h4,h5,h6,ha,h8.set_ 1 _⟩,set_grown w g 1 _⟩
theorem toks_tail{w:World}{g off:Nat}{t:Tok}{r:List Tok}(h:ToksAt w (some ⟨g,off,none⟩) (t::r)):ToksAt w (some ⟨g,off+4,none⟩) r:=by
 intro i hi
 obtain⟨g',off',e,hl,a0,a1,a2,a3⟩:=h (i+1) (by simpa using hi)
 cases e
 refine⟨g,off+4,rfl,hl, ?_, ?_, ?_, ?_⟩
 ·rw[show off+4+i*4=off+(i+1)*4 by omega];exact a0
 ·rw[show off+4+i*4+1=off+(i+1)*4+1 by omega];exact a1
 ·rw[show off+4+i*4+2=off+(i+1)*4+2 by omega];exact a2
 ·rw[show off+4+i*4+3=off+(i+1)*4+3 by omega];exact a3
theorem StP.step{V w:World}{g a gT off c:Nat}{t:Tok}{r:List Tok}(h1:Rel V w)(h2:V.heap.size≤g)(h3:ToksAt V (some ⟨gT,off,none⟩) (t::r))(h4:FineP (t::r))(h5:(t::r).length≤c)(h6:c≤9223372036854775807)(h7:a≤100)(h8:Bk w g 125 #[.slice (some ⟨gT,off,none⟩) (t::r).length c,.int .i64 a])
  (A:Option Addr) (n c':Nat) (hA:r=[]∨A=some ⟨gT,off+4,none⟩) (hn:n=r.length) (hc:c'=c-1) (W:World) (hW:w.setCell ⟨g,0,none⟩ (.slice A n c')=W):
  (r≠[]→StP V W g r a)∧w.grownBy W (some g)∧∃S,Bk W g 125 #[S,.int .i64 a]:=by
 subst hW hn hc
 refine⟨fun hr=> ?_,set_grown w g 0 _,_,h8.set_ 0 _⟩
 rcases hA with e|rfl
 ·exact absurd e hr
 ·exact⟨_,_,h1.setCell h2 _,h2,toks_tail h3,h4.tail hr,by simp at h5⊢;omega,by omega,h7,h8.set_ 0 _⟩
theorem StP.fin{V w:World}{g a gT off c:Nat}{t:Tok}{r:List Tok}(h:Rel V w∧V.heap.size≤g∧ToksAt V (some ⟨gT,off,none⟩) (t::r)∧FineP (t::r)∧Bk w g 125 #[.slice (some ⟨gT,off,none⟩) (t::r).length c,.int .i64 a])(h5:(t::r).length≤c)(h6:c≤9223372036854775807)(h7:a≤100)
  (A:Option Addr) (n c':Nat) (hA:r=[]∨A=some ⟨gT,off+4,none⟩) (hn:n=r.length) (hc:c'=c-1) (o1 o2:Obj):
  (¬r=[]→StP V (((w.setCell ⟨g,0,none⟩ (.slice A n c')).alloc o1).alloc o2) g r a)∧w.grownBy (((w.setCell ⟨g,0,none⟩ (.slice A n c')).alloc o1).alloc o2) (some g)∧∃S,Bk (((w.setCell ⟨g,0,none⟩ (.slice A n c')).alloc o1).alloc o2) g 125 #[S,.int .i64 a]:=by
 obtain⟨h1,h2,h3,h4,h8⟩:=h
 obtain⟨k1,k2,S,k3⟩:=StP.step h1 h2 h3 h4 h5 h6 h7 h8 A n c' hA hn hc _ rfl
 have R:=((h1.setCell (p:=⟨g,0,none⟩) h2 (.slice A n c')).self.alloc o1).alloc o2
 exact⟨fun hr=>(k1 hr).rel R,grown_trans k2 (grown_rel (some g) R),S,k3.rel R⟩
theorem pnext_any(V:World)(g a:Nat)(ts:List Tok)(w:World)(h:StP V w g ts a):
  Calls Tryz.prog 103 #[.pointer (some ⟨g,0,none⟩)] w fun e w'=>e= .returned (TK (hdT ts))∧(ts.tail≠[]→StP V w' g ts.tail a)∧w.grownBy w' (some g)∧∃S,Bk w' g 125 #[S,.int .i64 a]:=by
 obtain⟨A,c,h1,h2,h3,h4,h5,h6,h7,h8⟩:=h
 have hn:=h4.ne
 cases ts with
 |nil=>simp at hn
 |cons t r=>
  have hgl:=h8.lt
  obtain⟨gT,off,rfl,hb,x0,x1,x2,x3⟩:=(h3.rel h1) 0 (by simp)
  simp only[Nat.zero_mul,Nat.add_zero,List.getElem_cons_zero] at x0 x1 x2 x3
  obtain⟨⟨c0,c1⟩,f0,f1⟩:=h8.two
  have HH:=yH (And.intro h1 (And.intro h2 (And.intro h3 (And.intro h4 h8))))
  have hl1:1≤(t::r).length:=by simp
  have HL:=yH (show(t::r).length-1=r.length by simp)
  have HNil:=yH (show c=1→r=[] from fun e=>by subst e;simp at h5;exact h5)
  have h5':=h5
  have H5:=yH h5'
  obtain⟨m,hm⟩:∃m,(t::r).length=m:=⟨_,rfl⟩
  rw[hm] at c0 hl1 h5 HL
  clear h1 h2 h3 h4 h8 hm h5'
  go_enter Tryz.func103,Tryz.ntmps103
  go_wp2_with (fail)
  all_goals
   refine bodyPost_ret (v:=TK t) (by simp[results,Tryz.results103,go_sem]) rfl ⟨rfl, ?_⟩
   first
    |exact StP.fin HH.out H5.out h6 h7 _ _ _ (.inr rfl) HL.out rfl _ _
    |exact StP.fin HH.out H5.out h6 h7 _ _ _ (.inl (HNil.out (by omega))) HL.out (by omega) _ _
theorem pwrong_any(t:Tok)(w:World):Calls Tryz.prog 102 #[TK t] w fun e w'=>e= .returned (.agg #[.int .i64 80,.int .i64 t.2.2.2])∧w'=(w.alloc (.cells #[.int .i64 t.1,.string (B t.2.1),.int .i64 t.2.2.1,.int .i64 t.2.2.2] 78)).alloc (.cells #[.int .i64 80,.int .i64 t.2.2.2] 122):=by
 go_enter Tryz.func102,Tryz.ntmps102
 go_wp2_with (fail)
 refine bodyPost_ret (v:= .agg #[.int .i64 80,.int .i64 t.2.2.2]) (by simp[results,Tryz.results102,go_sem]) rfl ⟨rfl,rfl⟩
theorem fail_grown{w w2:World}{g:Nat}(h:w.grownBy w2 (some g))(V:World)(hV:Rel V w2)(o1 o2 o3:Obj):w.grownBy (((w2.alloc o1).alloc o2).alloc o3) (some g):=
 grown_trans h (grown_rel (some g) (((hV.self.alloc o1).alloc o2).alloc o3))
theorem psign_yes(V:World)(g a:Nat)(ts:List Tok)(c:List UInt8)(C:ByteArray)(hC:Hid (C=B c))(w:World)(h:StP V w g ts a)(hc:(hdT ts).2.1=c)(h0:c≠[]):
  Calls Tryz.prog 134 #[.pointer (some ⟨g,0,none⟩),.string C] w fun e w'=>e= .returned (.tuple #[])∧StP V w' g ts.tail a∧w.grownBy w' (some g):=by
 have HN:=yH (pnext_any V g a ts w h)
 have HT:=yH (h.fine.last (.inr (by rw[hc];exact h0)))
 have HR:=yH h.V.1
 obtain⟨t,ht⟩:∃t,hdT ts=t:=⟨_,rfl⟩
 rw[ht] at HN hc
 obtain rfl:C=B t.2.1:=by rw[hC.out,hc]
 have hb:((B t.2.1).toList==(B t.2.1).toList)=true:=by simp
 clear h ht hc hC
 go_enter Tryz.func134,Tryz.ntmps134
 go_wp2_with (go_at_call 103;(with_reducible refine HN.out.mono ?_);rintro e w2 ⟨rfl,s2,g2,_⟩;have S2:=yH s2;have G2:=yH g2;clear s2 g2)
 go_end0
 have R:=(S2.out HT.out).V.1.self.alloc (.cells #[.int .i64 t.1,.string (B t.2.1),.int .i64 t.2.2.1,.int .i64 t.2.2.2] 78)
 exact⟨rfl,(S2.out HT.out).rel R,grown_trans G2.out (grown_rel (some g) R)⟩
theorem psign_not(V:World)(g a:Nat)(ts:List Tok)(c:List UInt8)(C:ByteArray)(hC:Hid (C=B c))(w:World)(h:StP V w g ts a)(hc:(hdT ts).2.1≠c):
  Calls Tryz.prog 134 #[.pointer (some ⟨g,0,none⟩),.string C] w fun e w'=>e=FLT 80 (atT ts)∧w.grownBy w' (some g):=by
 have HN:=yH (pnext_any V g a ts w h)
 have HV:=yH h.V
 obtain⟨t,ht⟩:∃t,hdT ts=t:=⟨_,rfl⟩
 have HA:=yH (show atT ts=t.2.2.2 by unfold atT;rw[ht])
 rw[ht] at HN hc
 have hb:((B t.2.1).toList==C.toList)=false:=by rw[hC.out,B_toList,B_toList];simpa using hc
 clear h ht hc hC
 go_enter Tryz.func134,Tryz.ntmps134
 go_wp2_with (first
  |(go_at_call 103;(with_reducible refine HN.out.mono ?_);rintro e w2 ⟨rfl,s2,g2,_⟩;have G2:=yH g2;clear s2 g2)
  |(go_at_call 102;(with_reducible refine(pwrong_any t _).mono ?_);rintro e w3 ⟨rfl,rfl⟩))
 exact⟨rfl,by rw[HA.out],fail_grown G2.out V (HV.out.1.grown G2.out (fun k e=>by cases e;exact HV.out.2)) _ _ _⟩
def Out(l:List UInt8)(ts:List Tok)(err place:Int):Prop:=
 (2000<l.length∧ts=[]∧err=60∧place=2000)∨(l.length≤2000∧lx 0 l= .ok ts∧err=0∧place=0)∨(l.length≤2000∧∃k:Nat,lx 0 l= .error k∧ts=[]∧err=61∧place=k)
theorem Out.det{l:List UInt8}{ts ts':List Tok}{e e' p p':Int}(h:Out l ts e p)(h':Out l ts' e' p'):ts=ts'∧e=e'∧p=p':=by
 rcases h with ⟨a,rfl,rfl,rfl⟩|⟨a,b,rfl,rfl⟩|⟨a,k,b,rfl,rfl,rfl⟩<;>rcases h' with ⟨a',rfl,rfl,rfl⟩|⟨a',b',rfl,rfl⟩|⟨a',k',b',rfl,rfl,rfl⟩
 ·exact⟨rfl,rfl,rfl⟩
 ·omega
 ·omega
 ·omega
 ·rw[b] at b';injection b' with b';exact⟨b',rfl,rfl⟩
 ·rw[b] at b';cases b'
 ·omega
 ·rw[b] at b';cases b'
 ·rw[b] at b';injection b' with b';subst b';exact⟨rfl,rfl,rfl⟩
theorem B_cut(s:ByteArray)(i j:Nat):s.extract i j=B ((s.data.toList.drop i).take (j-i)):=by
 apply ByteArray.ext
 apply Array.ext'
 simp[B,ByteArray.data_extract,List.extract_eq_take_drop]
theorem run_at(s:ByteArray)(p:Nat)(hp:p≤s.size):∃m,p+m≤s.size∧(∀j (h:p+j<s.size),j<m→isPt (s[p+j]'h)=true)∧(∀h:p+m<s.size,isPt (s[p+m]'h)=false)∧
  s.extract p (p+m)=B ((s.data.toList.drop p).takeWhile isPt)∧((s.data.toList.drop p).takeWhile isPt).length=m∧(s.data.toList.drop p).dropWhile isPt=s.data.toList.drop (p+m):=by
 have el:s.data.toList.length=s.size:=by simp
 obtain⟨x,hx⟩:∃x,(s.data.toList.drop p).takeWhile isPt=x:=⟨_,rfl⟩
 obtain⟨r,hr⟩:∃r,(s.data.toList.drop p).dropWhile isPt=r:=⟨_,rfl⟩
 have hL:s.data.toList.drop p=x++r:=by rw[←hx,←hr];exact(List.takeWhile_append_dropWhile).symm
 have hlen:x.length+r.length=s.size-p:=by rw[←List.length_append,←hL,List.length_drop,el]
 have hat:∀j (h:p+j<s.size),(x++r)[j]?=some (s[p+j]'h):=fun j h=>by
  rw[←hL,List.getElem?_drop,List.getElem?_eq_getElem (by omega)];rfl
 have hall:x.all isPt=true:=by rw[←hx];exact all_run _
 refine⟨x.length,by omega, ?_, ?_, ?_,by rw[hx], ?_⟩
 ·intro j h hj
  have:=hat j h
  rw[List.getElem?_append_left hj,List.getElem?_eq_getElem hj] at this
  rw[←Option.some.inj this]
  exact List.all_eq_true.1 hall _ (List.getElem_mem hj)
 ·intro h
  have:=hat x.length h
  rw[List.getElem?_append_right (Nat.le_refl _),Nat.sub_self] at this
  cases r with
  |nil=>simp at this
  |cons d u=>
   simp at this
   rw[←this]
   have hd:=List.head?_dropWhile_not isPt (s.data.toList.drop p)
   rw[hr] at hd
   simpa using hd
 ·rw[B_cut,hx,hL,show p+x.length-p=x.length by omega,List.take_left]
 ·rw[hr,←List.drop_drop,hL,List.drop_left]
theorem TokOwn.row{w:World}{base:Nat}{v:Value}{ts:List Tok}(h:TokOwn w base v ts):w.ownsRow base 78 4 v ts.length (cellsOf ts):=h
theorem drop_cons(s:ByteArray)(p:Nat)(h:p<s.size):s.data.toList.drop p=(s[p]'h)::s.data.toList.drop (p+1):=by
 have el:s.data.toList.length=s.size:=by simp
 rw[List.drop_eq_getElem_cons (by omega)];rfl
theorem byte_eq{c d:UInt8}(n:Int)(hd:(d.toNat:Int)=n):((c.toNat:Int)==n)=(c==d):=by
 apply Bool.eq_iff_iff.2
 simp only[beq_iff_eq]
 constructor
 ·intro e;exact UInt8.toNat_inj.1 (by omega)
 ·rintro rfl;exact hd
theorem bl_bytes(c:UInt8):isBl c=(((c.toNat:Int)==32)||((c.toNat:Int)==10)):=by
 rw[byte_eq (d:=32) 32 rfl,byte_eq (d:=10) 10 rfl];rfl
theorem sg_bytes(c:UInt8):isSg c=(((c.toNat:Int)==40)||((c.toNat:Int)==41)||((c.toNat:Int)==44)):=by
 rw[byte_eq (d:=40) 40 rfl,byte_eq (d:=41) 41 rfl,byte_eq (d:=44) 44 rfl];rfl
theorem ways(c:UInt8):
  (isBl c=true∧((c.toNat:Int)==32)=true)∨(isBl c=true∧((c.toNat:Int)==32)=false∧((c.toNat:Int)==10)=true)∨
  (isSg c=true∧((c.toNat:Int)==32)=false∧((c.toNat:Int)==10)=false∧((c.toNat:Int)==40)=true)∨
  (isSg c=true∧((c.toNat:Int)==32)=false∧((c.toNat:Int)==10)=false∧((c.toNat:Int)==40)=false∧((c.toNat:Int)==41)=true)∨
  (isSg c=true∧((c.toNat:Int)==32)=false∧((c.toNat:Int)==10)=false∧((c.toNat:Int)==40)=false∧((c.toNat:Int)==41)=false∧((c.toNat:Int)==44)=true)∨
  ((isBl c=false∧isSg c=false)∧((c.toNat:Int)==32)=false∧((c.toNat:Int)==10)=false∧((c.toNat:Int)==40)=false∧((c.toNat:Int)==41)=false∧((c.toNat:Int)==44)=false):=by
 have h1:=bl_bytes c
 have h2:=sg_bytes c
 have h3:=fun h=>(sg_not (c:=c) h).1
 revert h1 h2 h3
 cases((c.toNat:Int)==32)<;>cases((c.toNat:Int)==10)<;>cases((c.toNat:Int)==40)<;>cases((c.toNat:Int)==41)<;>cases((c.toNat:Int)==44)<;>cases isBl c<;>cases isSg c<;>simp
end Go.Proofs.YtfekhbeaphpelaaGreatDoor

namespace Go.Proofs.YtfekhbeaphpelaaGreatDoor
open Go.Lib
set_option linter.unusedVariables false
set_option linter.unusedSimpArgs false
def lxP(p:Nat)(l:List UInt8):List Tok×Option Nat:=
 match l with
 |[]=>([(5,[],0,(p:Int))],none)
 |c::t=>
  if isBl c then lxP (p+1) t
  else if isSg c then ((4,[c],0,(p:Int))::(lxP (p+1) t).1,(lxP (p+1) t).2)
  else
   match h:tokOf ((c::t).takeWhile isPt) with
   |none=>([],some p)
   |some kn=>((kn.1,(c::t).takeWhile isPt,kn.2,(p:Int))::(lxP (p+((c::t).takeWhile isPt).length) ((c::t).dropWhile isPt)).1,(lxP (p+((c::t).takeWhile isPt).length) ((c::t).dropWhile isPt)).2)
 termination_by l.length
 decreasing_by
  all_goals simp_wf
  all_goals
   have h1:=tokOf_ne (k:=kn.1) (n:=kn.2) h
   have h2:=run_len (c::t)
   have h3:1≤((c::t).takeWhile isPt).length:=by
    rcases hx:(c::t).takeWhile isPt with _|⟨a,b⟩
    ·exact absurd hx h1
    ·simp
   simp at h2 h3⊢
   omega
theorem lxP_nil(p:Nat):lxP p []=([(5,[],0,(p:Int))],none):=by rw[lxP]
theorem lxP_blank(p:Nat)(c:UInt8)(t:List UInt8)(h:isBl c=true):lxP p (c::t)=lxP (p+1) t:=by rw[lxP,if_pos h]
theorem lxP_sign(p:Nat)(c:UInt8)(t:List UInt8)(h:isBl c=false)(h':isSg c=true):lxP p (c::t)=((4,[c],0,(p:Int))::(lxP (p+1) t).1,(lxP (p+1) t).2):=by
 rw[lxP,if_neg (by rw[h];simp),if_pos h']
theorem lxP_bad(p:Nat)(c:UInt8)(t:List UInt8)(h:isBl c=false)(h':isSg c=false)(hn:tokOf ((c::t).takeWhile isPt)=none):lxP p (c::t)=([],some p):=by
 rw[lxP,if_neg (by rw[h];simp),if_neg (by rw[h'];simp)]
 split
 ·rfl
 ·rename_i h2;rw[hn] at h2;cases h2
theorem lxP_tok(p:Nat)(c:UInt8)(t:List UInt8)(k n:Int)(h:isBl c=false)(h':isSg c=false)(hn:tokOf ((c::t).takeWhile isPt)=some (k,n)):
  lxP p (c::t)=((k,(c::t).takeWhile isPt,n,(p:Int))::(lxP (p+((c::t).takeWhile isPt).length) ((c::t).dropWhile isPt)).1,(lxP (p+((c::t).takeWhile isPt).length) ((c::t).dropWhile isPt)).2):=by
 rw[lxP,if_neg (by rw[h];simp),if_neg (by rw[h'];simp)]
 split
 ·rename_i h2;rw[hn] at h2;cases h2
 ·rename_i kn h2;rw[hn] at h2;cases h2;rfl
def outP(r:List Tok×Option Nat):Scan:=match r.2 with
 |none=> .ok r.1
 |some k=> .error k
theorem lx_outP:∀(m:Nat) (s:List UInt8),s.length≤m→∀p:Nat,lx p s=outP (lxP p s):=by
 intro m
 induction m with
 |zero=>
  intro s hs p
  obtain rfl:s=[]:=List.length_eq_zero_iff.1 (by omega)
  rw[lx_nil,lxP_nil];rfl
 |succ m ih=>
  intro s hs p
  cases s with
  |nil=>rw[lx_nil,lxP_nil];rfl
  |cons c t=>
   simp only[List.length_cons] at hs
   have hp:∀(x:Tok) (r:List Tok×Option Nat),pre [x] (outP r)=outP (x::r.1,r.2):=fun x r=>by
    obtain⟨a,b⟩:=r
    cases b<;>rfl
   cases hb:isBl c
   ·cases hg:isSg c
    ·cases hn:tokOf ((c::t).takeWhile isPt) with
     |none=>rw[lx_bad _ c t hb hg hn,lxP_bad _ c t hb hg hn];rfl
     |some kn=>
      obtain⟨k,j⟩:=kn
      have hx:=tokOf_ne hn
      have h2:=run_len (c::t)
      have h3:1≤((c::t).takeWhile isPt).length:=by
       rcases hx':(c::t).takeWhile isPt with _|⟨a,b⟩
       ·exact absurd hx' hx
       ·simp
      simp only[List.length_cons] at h2
      rw[lx_tok _ c t k j hb hg hn,lxP_tok _ c t k j hb hg hn,ih _ (by omega),hp]
    ·rw[lx_sign _ c t hb hg,lxP_sign _ c t hb hg,ih t (by omega),hp]
   ·rw[lx_blank _ c t hb,lxP_blank _ c t hb,ih t (by omega)]
def AtP(l:List UInt8)(p:Nat)(ts:List Tok):Prop:=lxP 0 l=(ts++(lxP p (l.drop p)).1,(lxP p (l.drop p)).2)∧ts.length≤p
theorem AtP.start(l:List UInt8):AtP l 0 []:=⟨rfl,Nat.le_refl _⟩
theorem AtP.blank{l:List UInt8}{p:Nat}{ts:List Tok}{c:UInt8}{t:List UInt8}(h:AtP l p ts)(hp:l.drop p=c::t)(hb:isBl c=true):AtP l (p+1) ts:=by
 have e:l.drop (p+1)=t:=by rw[←List.drop_drop,hp];rfl
 exact⟨by rw[h.1,hp,lxP_blank _ _ _ hb,e],by have:=h.2;omega⟩
theorem AtP.sign{l:List UInt8}{p:Nat}{ts:List Tok}{c:UInt8}{t:List UInt8}(h:AtP l p ts)(hp:l.drop p=c::t)(hb:isSg c=true):AtP l (p+1) (ts++[(4,[c],0,(p:Int))])∧∃r,(lxP 0 l).1=ts++(4,[c],0,(p:Int))::r:=by
 have e:l.drop (p+1)=t:=by rw[←List.drop_drop,hp];rfl
 refine⟨⟨by rw[h.1,hp,lxP_sign _ _ _ (sg_not hb).1 hb,e];simp,by have:=h.2;simp;omega⟩,(lxP (p+1) t).1, ?_⟩
 rw[h.1,hp,lxP_sign _ _ _ (sg_not hb).1 hb]
theorem AtP.tok{l:List UInt8}{p e:Nat}{ts:List Tok}{c:UInt8}{t x:List UInt8}{k n:Int}(h:AtP l p ts)(hp:l.drop p=c::t)(hb:isBl c=false)(hg:isSg c=false)
  (hx:(l.drop p).takeWhile isPt=x) (hm:p+x.length=e) (hd:(l.drop p).dropWhile isPt=l.drop e) (ht:tokOf x=some (k,n)):AtP l e (ts++[(k,x,n,(p:Int))])∧∃r,(lxP 0 l).1=ts++(k,x,n,(p:Int))::r:=by
 have hm1:1≤x.length:=by
  have:=tokOf_ne ht
  rcases x with _|⟨a,b⟩
  ·exact absurd rfl this
  ·simp
 rw[hp] at hx hd
 have q:=lxP_tok p c t k n hb hg (by rw[hx];exact ht)
 rw[hx,hd,hm] at q
 refine⟨⟨by rw[h.1,hp,q];simp,by have:=h.2;simp;omega⟩,(lxP e (l.drop e)).1, ?_⟩
 rw[h.1,hp,q]
theorem AtP.bad{l:List UInt8}{p:Nat}{ts:List Tok}{c:UInt8}{t x:List UInt8}(h:AtP l p ts)(hp:l.drop p=c::t)(hb:isBl c=false)(hg:isSg c=false)
  (hx:(l.drop p).takeWhile isPt=x) (ht:tokOf x=none):lxP 0 l=(ts,some p):=by
 rw[hp] at hx
 rw[h.1,hp,lxP_bad _ _ _ hb hg (by rw[hx];exact ht)];simp
theorem AtP.done{l:List UInt8}{ts:List Tok}(h:AtP l l.length ts):lxP 0 l=(ts++[(5,[],0,(l.length:Int))],none):=by
 rw[h.1,List.drop_length,lxP_nil]
def pcOf(l:List UInt8):List UInt8:=if l.takeWhile isPt=[] then l.take 1 else l.takeWhile isPt
def told:List UInt8→Option (Int×Int)
 |[]=>none
 |c::t=>if isSg c then some (4,0) else tokOf (c::t)
theorem told_sign{c:UInt8}{t:List UInt8}(h:isSg c=true):told (c::t)=some (4,0):=by simp only[told];rw[if_pos h]
theorem told_not{c:UInt8}{t:List UInt8}(h:isSg c=false):told (c::t)=tokOf (c::t):=by simp only[told];rw[if_neg (by rw[h];simp)]
theorem take_pt{c:UInt8}{t:List UInt8}(h:isPt c=true):∃y,(c::t).takeWhile isPt=c::y:=⟨t.takeWhile isPt,by rw[List.takeWhile_cons,h];rfl⟩
theorem take_not{c:UInt8}{t:List UInt8}(h:isPt c=false):(c::t).takeWhile isPt=[]:=by rw[List.takeWhile_cons,h];rfl
theorem pc_pt{c:UInt8}{t:List UInt8}(h:isPt c=true):pcOf (c::t)=(c::t).takeWhile isPt:=by
 obtain⟨y,e⟩:=take_pt (t:=t) h
 unfold pcOf;rw[e,if_neg (by simp)]
theorem pc_not{c:UInt8}{t:List UInt8}(h:isPt c=false):pcOf (c::t)=[c]:=by
 unfold pcOf;rw[take_not h,if_pos rfl];rfl
theorem pc_head(c:UInt8)(t:List UInt8):∃y,pcOf (c::t)=c::y:=by
 cases h:isPt c
 ·exact⟨[],pc_not h⟩
 ·rw[pc_pt h];exact take_pt h
theorem pc_len_le(l:List UInt8):(pcOf l).length≤l.length:=by
 unfold pcOf
 split
 ·exact List.length_take_le' _ _
 ·exact(List.takeWhile_sublist _).length_le
theorem pc_max(c:UInt8)(t:List UInt8):pcOf (c::t)=(c::t).take (max ((c::t).takeWhile isPt).length 1)∧(pcOf (c::t)).length=max ((c::t).takeWhile isPt).length 1:=by
 cases h:isPt c
 ·rw[pc_not h,take_not h];exact⟨rfl,rfl⟩
 ·obtain⟨y,e⟩:=take_pt (t:=t) h
  have e2:(c::t).takeWhile isPt++(c::t).dropWhile isPt=c::t:=List.takeWhile_append_dropWhile
  have m:max ((c::t).takeWhile isPt).length 1=((c::t).takeWhile isPt).length:=by rw[e];simp
  rw[pc_pt h,m]
  refine⟨?_,rfl⟩
  have e3:(c::t).take ((c::t).takeWhile isPt).length=((c::t).takeWhile isPt++(c::t).dropWhile isPt).take ((c::t).takeWhile isPt).length:=by rw[e2]
  rw[e3,List.take_left]
theorem tok_char{c:UInt8}(h:isPt c=false):tokOf [c]=none:=by
 simp only[isPt,Bool.or_eq_false_iff] at h
 unfold tokOf
 rw[word_head (c:=c) rfl h.1.1,name_head (c:=c) rfl h.1.1,cnt_not (l:=[c]) (by simp[allD,h.1.2]),ref_short (l:=[c]) (by unfold body;split<;>simp),if_neg (by simp),if_neg (by omega)]
theorem AtP.piece{l:List UInt8}{p:Nat}{ts:List Tok}{c:UInt8}{t:List UInt8}(h:AtP l p ts)(hp:l.drop p=c::t)(hb:isBl c=false):
  (∃k n,told (pcOf (c::t))=some (k,n)∧AtP l (p+(pcOf (c::t)).length) (ts++[(k,pcOf (c::t),n,(p:Int))])∧∃r,(lxP 0 l).1=ts++(k,pcOf (c::t),n,(p:Int))::r)∨
  (told (pcOf (c::t))=none∧lxP 0 l=(ts,some p)):=by
 cases hg:isSg c
 ·cases hpt:isPt c
  ·refine .inr ⟨?_,h.bad hp hb hg (x:=[]) (by rw[hp];exact take_not hpt) tokOf_nil⟩
   rw[pc_not hpt,told_not hg];exact tok_char hpt
  ·obtain⟨y,e⟩:=take_pt (t:=t) hpt
   have e2:told (pcOf (c::t))=tokOf (pcOf (c::t)):=by rw[pc_pt hpt,e];exact told_not hg
   rw[e2,pc_pt hpt]
   cases ht:tokOf ((c::t).takeWhile isPt) with
   |none=>exact .inr ⟨rfl,h.bad hp hb hg (by rw[hp]) ht⟩
   |some kn=>
    obtain⟨k,n⟩:=kn
    refine .inl ⟨k,n,rfl,h.tok hp hb hg (by rw[hp]) rfl ?_ ht⟩
    have e3:(c::t).takeWhile isPt++(c::t).dropWhile isPt=c::t:=List.takeWhile_append_dropWhile
    have e4:l.drop (p+((c::t).takeWhile isPt).length)=((c::t).takeWhile isPt++(c::t).dropWhile isPt).drop ((c::t).takeWhile isPt).length:=by rw[←List.drop_drop,hp,e3]
    rw[hp,e4,List.drop_left]
 ·have hpt:=(sg_not hg).2
  rw[pc_not hpt]
  obtain⟨a,b⟩:=h.sign hp hg
  exact .inl ⟨4,0,told_sign hg,a,b⟩
end Go.Proofs.YtfekhbeaphpelaaGreatDoor
