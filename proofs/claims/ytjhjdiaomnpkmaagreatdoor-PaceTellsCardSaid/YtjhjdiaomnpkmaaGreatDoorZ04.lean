/- The landed parser. -/

import Derived.Test.YtjhjdiaomnpkmaaGreatDoorZ03
set_option maxRecDepth 100000
set_option maxHeartbeats 8000000
set_option linter.unusedVariables false
set_option linter.unusedSimpArgs false
namespace Go.Proofs.YtjhjdiaomnpkmaaGreatDoor
open Go.RowKit Go.Lib
abbrev FLT(c p:Int):Ending:= .panicked [{v:= .iface 102 (.agg #[.int .i64 c,.int .i64 p]),recovered:=false}]
def FineP(ts:List Tok):Prop:=(∀t∈ts,okP t∧i64 t.1∧i64 t.2.2.1∧i64 t.2.2.2∧t.2.1.length≤100)∧ts.length≤100000∧∃us p,ts=us++[(5,[],0,p)]
theorem FineP.ne{ts:List Tok}(h:FineP ts):0<ts.length:=by
 obtain⟨_,_,us,p,rfl⟩:=h;simp
theorem FineP.tail{ts:List Tok}(h:FineP ts)(hn:ts.tail≠[]):FineP ts.tail:=by
 obtain⟨h1,h2,us,p,rfl⟩:=h
 refine⟨fun t ht=>h1 t (List.mem_of_mem_tail ht),by rw[List.length_tail];omega, ?_⟩
 cases us with
 |nil=>exact absurd rfl hn
 |cons t r=>exact⟨r,p,rfl⟩
theorem FineP.head{ts:List Tok}(h:FineP ts):okP (hdT ts)∧i64 (hdT ts).1∧i64 (hdT ts).2.2.1∧i64 (hdT ts).2.2.2∧(hdT ts).2.1.length≤100:=by
 have hn:=h.ne
 cases ts with
 |nil=>simp at hn
 |cons t r=>exact h.1 t (List.mem_cons_self ..)
theorem FineP.last{ts:List Tok}(h:FineP ts)(h5:(hdT ts).1≠5∨(hdT ts).2.1≠[]):ts.tail≠[]:=by
 obtain⟨_,_,us,p,rfl⟩:=h
 cases us with
 |nil=>simp[hdT] at h5
 |cons t r=>simp
theorem FineP.oks{ts:List Tok}(h:FineP ts):∀t∈ts,okP t:=fun t ht=>(h.1 t ht).1
def StP(V w:World)(g:Nat)(ts:List Tok)(a:Nat):Prop:=
 ∃(A:Option Addr)(c:Nat),Rel V w∧V.heap.size≤g∧ToksAt V A ts∧FineP ts∧ts.length≤c∧c≤9223372036854775807∧a≤100∧Bk w g 105 #[.slice A ts.length c,.int .i64 a]
theorem StP.lt{V w:World}{g a:Nat}{ts:List Tok}(h:StP V w g ts a):g<w.heap.size:=by
 obtain⟨_,_,_,_,_,_,_,_,_,hb⟩:=h;exact hb.lt
theorem StP.fine{V w:World}{g a:Nat}{ts:List Tok}(h:StP V w g ts a):FineP ts:=by
 obtain⟨_,_,_,_,_,hf,_⟩:=h;exact hf
theorem StP.V{V w:World}{g a:Nat}{ts:List Tok}(h:StP V w g ts a):Rel V w∧V.heap.size≤g:=by
 obtain⟨_,_,hr,hg,_⟩:=h;exact⟨hr,hg⟩
theorem StP.rel{V w w':World}{g a:Nat}{ts:List Tok}(h:StP V w g ts a)(hr:Rel w w'):StP V w' g ts a:=by
 obtain⟨A,c,h1,h2,h3,h4,h5,h6,h7,h8⟩:=h
 exact⟨A,c,h1.trans hr,h2,h3,h4,h5,h6,h7,h8.rel hr⟩
theorem StP.grown{V w w':World}{g a:Nat}{ts:List Tok}(h:StP V w g ts a){b:Option Nat}(hg:w.grownBy w' b)(hb:some g≠b)(hV:∀k,b=some k→V.heap.size≤k):StP V w' g ts a:=by
 obtain⟨A,c,h1,h2,h3,h4,h5,h6,h7,h8⟩:=h
 exact⟨A,c,h1.grown hg hV,h2,h3,h4,h5,h6,h7,h8.grown hg hb⟩
theorem StP.around{V w:World}{g a:Nat}{ts:List Tok}(h:StP V w g ts a)(a':Nat)(ha:a'≤100):StP V (w.setCell ⟨g,1,none⟩ (.int .i64 a')) g ts a'∧w.grownBy (w.setCell ⟨g,1,none⟩ (.int .i64 a')) (some g):=by
 obtain⟨A,c,h1,h2,h3,h4,h5,h6,h7,h8⟩:=h
 exact⟨⟨A,c,h1.setCell h2 _,h2,h3,h4,h5,h6,ha,h8.set_ 1 _⟩,set_grown w g 1 _⟩
theorem toks_tail{w:World}{g off:Nat}{t:Tok}{r:List Tok}(h:ToksAt w (some ⟨g,off,none⟩) (t::r)):ToksAt w (some ⟨g,off+4,none⟩) r:=by
 intro i hi
 obtain⟨g',off',e,hl,a0,a1,a2,a3⟩:=h (i+1) (by simpa using hi)
 cases e
 refine⟨g,off+4,rfl,hl, ?_, ?_, ?_, ?_⟩
 ·rw[show off+4+i*4=off+(i+1)*4 by omega];exact a0
 ·rw[show off+4+i*4+1=off+(i+1)*4+1 by omega];exact a1
 ·rw[show off+4+i*4+2=off+(i+1)*4+2 by omega];exact a2
 ·rw[show off+4+i*4+3=off+(i+1)*4+3 by omega];exact a3
theorem StP.step{V w:World}{g a gT off c:Nat}{t:Tok}{r:List Tok}(h1:Rel V w)(h2:V.heap.size≤g)(h3:ToksAt V (some ⟨gT,off,none⟩) (t::r))(h4:FineP (t::r))(h5:(t::r).length≤c)(h6:c≤9223372036854775807)(h7:a≤100)(h8:Bk w g 105 #[.slice (some ⟨gT,off,none⟩) (t::r).length c,.int .i64 a])
  (A:Option Addr) (n c':Nat) (hA:r=[]∨A=some ⟨gT,off+4,none⟩) (hn:n=r.length) (hc:c'=c-1) (W:World) (hW:w.setCell ⟨g,0,none⟩ (.slice A n c')=W):
  (r≠[]→StP V W g r a)∧w.grownBy W (some g)∧∃S,Bk W g 105 #[S,.int .i64 a]:=by
 subst hW hn hc
 refine⟨fun hr=> ?_,set_grown w g 0 _,_,h8.set_ 0 _⟩
 rcases hA with e|rfl
 ·exact absurd e hr
 ·exact⟨_,_,h1.setCell h2 _,h2,toks_tail h3,h4.tail hr,by simp at h5⊢;omega,by omega,h7,h8.set_ 0 _⟩
theorem StP.fin{V w:World}{g a gT off c:Nat}{t:Tok}{r:List Tok}(h:Rel V w∧V.heap.size≤g∧ToksAt V (some ⟨gT,off,none⟩) (t::r)∧FineP (t::r)∧Bk w g 105 #[.slice (some ⟨gT,off,none⟩) (t::r).length c,.int .i64 a])(h5:(t::r).length≤c)(h6:c≤9223372036854775807)(h7:a≤100)
  (A:Option Addr) (n c':Nat) (hA:r=[]∨A=some ⟨gT,off+4,none⟩) (hn:n=r.length) (hc:c'=c-1) (o1 o2:Obj):
  (¬r=[]→StP V (((w.setCell ⟨g,0,none⟩ (.slice A n c')).alloc o1).alloc o2) g r a)∧w.grownBy (((w.setCell ⟨g,0,none⟩ (.slice A n c')).alloc o1).alloc o2) (some g)∧∃S,Bk (((w.setCell ⟨g,0,none⟩ (.slice A n c')).alloc o1).alloc o2) g 105 #[S,.int .i64 a]:=by
 obtain⟨h1,h2,h3,h4,h8⟩:=h
 obtain⟨k1,k2,S,k3⟩:=StP.step h1 h2 h3 h4 h5 h6 h7 h8 A n c' hA hn hc _ rfl
 have R:=((h1.setCell (p:=⟨g,0,none⟩) h2 (.slice A n c')).self.alloc o1).alloc o2
 exact⟨fun hr=>(k1 hr).rel R,grown_trans k2 (grown_rel (some g) R),S,k3.rel R⟩
theorem pnext_any(V:World)(g a:Nat)(ts:List Tok)(w:World)(h:StP V w g ts a):
  Calls Tryz.prog 95 #[.pointer (some ⟨g,0,none⟩)] w fun e w'=>e= .returned (TK (hdT ts))∧(ts.tail≠[]→StP V w' g ts.tail a)∧w.grownBy w' (some g)∧∃S,Bk w' g 105 #[S,.int .i64 a]:=by
 obtain⟨A,c,h1,h2,h3,h4,h5,h6,h7,h8⟩:=h
 have hn:=h4.ne
 cases ts with
 |nil=>simp at hn
 |cons t r=>
  have hgl:=h8.lt
  obtain⟨gT,off,rfl,hb,x0,x1,x2,x3⟩:=(h3.rel h1) 0 (by simp)
  simp only[Nat.zero_mul,Nat.add_zero,List.getElem_cons_zero] at x0 x1 x2 x3
  obtain⟨⟨c0,c1⟩,f0,f1⟩:=h8.two
  have HH:=yH (And.intro h1 (And.intro h2 (And.intro h3 (And.intro h4 h8))))
  have hl1:1≤(t::r).length:=by simp
  have HL:=yH (show(t::r).length-1=r.length by simp)
  have HNil:=yH (show c=1→r=[] from fun e=>by subst e;simp at h5;exact h5)
  have h5':=h5
  have H5:=yH h5'
  obtain⟨m,hm⟩:∃m,(t::r).length=m:=⟨_,rfl⟩
  rw[hm] at c0 hl1 h5 HL
  clear h1 h2 h3 h4 h8 hm h5'
  go_enter Tryz.func95,Tryz.ntmps95
  go_wp2_with (fail)
  all_goals
   refine bodyPost_ret (v:=TK t) (by simp[results,Tryz.results95,go_sem]) rfl ⟨rfl, ?_⟩
   first
    |exact StP.fin HH.out H5.out h6 h7 _ _ _ (.inr rfl) HL.out rfl _ _
    |exact StP.fin HH.out H5.out h6 h7 _ _ _ (.inl (HNil.out (by omega))) HL.out (by omega) _ _
theorem pwrong_any(t:Tok)(w:World):Calls Tryz.prog 94 #[TK t] w fun e w'=>e= .returned (.agg #[.int .i64 80,.int .i64 t.2.2.2])∧w'=(w.alloc (.cells #[.int .i64 t.1,.string (B t.2.1),.int .i64 t.2.2.1,.int .i64 t.2.2.2] 87)).alloc (.cells #[.int .i64 80,.int .i64 t.2.2.2] 102):=by
 go_enter Tryz.func94,Tryz.ntmps94
 go_wp2_with (fail)
 refine bodyPost_ret (v:= .agg #[.int .i64 80,.int .i64 t.2.2.2]) (by simp[results,Tryz.results94,go_sem]) rfl ⟨rfl,rfl⟩
theorem fail_grown{w w2:World}{g:Nat}(h:w.grownBy w2 (some g))(V:World)(hV:Rel V w2)(o1 o2 o3:Obj):w.grownBy (((w2.alloc o1).alloc o2).alloc o3) (some g):=
 grown_trans h (grown_rel (some g) (((hV.self.alloc o1).alloc o2).alloc o3))
theorem psign_yes(V:World)(g a:Nat)(ts:List Tok)(c:List UInt8)(C:ByteArray)(hC:Hid (C=B c))(w:World)(h:StP V w g ts a)(hc:(hdT ts).2.1=c)(h0:c≠[]):
  Calls Tryz.prog 109 #[.pointer (some ⟨g,0,none⟩),.string C] w fun e w'=>e= .returned (.tuple #[])∧StP V w' g ts.tail a∧w.grownBy w' (some g):=by
 have HN:=yH (pnext_any V g a ts w h)
 have HT:=yH (h.fine.last (.inr (by rw[hc];exact h0)))
 have HR:=yH h.V.1
 obtain⟨t,ht⟩:∃t,hdT ts=t:=⟨_,rfl⟩
 rw[ht] at HN hc
 obtain rfl:C=B t.2.1:=by rw[hC.out,hc]
 have hb:((B t.2.1).toList==(B t.2.1).toList)=true:=by simp
 clear h ht hc hC
 go_enter Tryz.func109,Tryz.ntmps109
 go_wp2_with (go_at_call 95;(with_reducible refine HN.out.mono ?_);rintro e w2 ⟨rfl,s2,g2,_⟩;have S2:=yH s2;have G2:=yH g2;clear s2 g2)
 go_end0
 have R:=(S2.out HT.out).V.1.self.alloc (.cells #[.int .i64 t.1,.string (B t.2.1),.int .i64 t.2.2.1,.int .i64 t.2.2.2] 87)
 exact⟨rfl,(S2.out HT.out).rel R,grown_trans G2.out (grown_rel (some g) R)⟩
theorem psign_not(V:World)(g a:Nat)(ts:List Tok)(c:List UInt8)(C:ByteArray)(hC:Hid (C=B c))(w:World)(h:StP V w g ts a)(hc:(hdT ts).2.1≠c):
  Calls Tryz.prog 109 #[.pointer (some ⟨g,0,none⟩),.string C] w fun e w'=>e=FLT 80 (atT ts)∧w.grownBy w' (some g):=by
 have HN:=yH (pnext_any V g a ts w h)
 have HV:=yH h.V
 obtain⟨t,ht⟩:∃t,hdT ts=t:=⟨_,rfl⟩
 have HA:=yH (show atT ts=t.2.2.2 by unfold atT;rw[ht])
 rw[ht] at HN hc
 have hb:((B t.2.1).toList==C.toList)=false:=by rw[hC.out,B_toList,B_toList];simpa using hc
 clear h ht hc hC
 go_enter Tryz.func109,Tryz.ntmps109
 go_wp2_with (first
  |(go_at_call 95;(with_reducible refine HN.out.mono ?_);rintro e w2 ⟨rfl,s2,g2,_⟩;have G2:=yH g2;clear s2 g2)
  |(go_at_call 94;(with_reducible refine(pwrong_any t _).mono ?_);rintro e w3 ⟨rfl,rfl⟩))
 exact⟨rfl,by rw[HA.out],fail_grown G2.out V (HV.out.1.grown G2.out (fun k e=>by cases e;exact HV.out.2)) _ _ _⟩
def Out(l:List UInt8)(ts:List Tok)(err place:Int):Prop:=
 (2000<l.length∧ts=[]∧err=60∧place=2000)∨(l.length≤2000∧lx 0 l= .ok ts∧err=0∧place=0)∨(l.length≤2000∧∃k:Nat,lx 0 l= .error k∧ts=[]∧err=61∧place=k)
theorem Out.det{l:List UInt8}{ts ts':List Tok}{e e' p p':Int}(h:Out l ts e p)(h':Out l ts' e' p'):ts=ts'∧e=e'∧p=p':=by
 rcases h with ⟨a,rfl,rfl,rfl⟩|⟨a,b,rfl,rfl⟩|⟨a,k,b,rfl,rfl,rfl⟩<;>rcases h' with ⟨a',rfl,rfl,rfl⟩|⟨a',b',rfl,rfl⟩|⟨a',k',b',rfl,rfl,rfl⟩
 ·exact⟨rfl,rfl,rfl⟩
 ·omega
 ·omega
 ·omega
 ·rw[b] at b';injection b' with b';exact⟨b',rfl,rfl⟩
 ·rw[b] at b';cases b'
 ·omega
 ·rw[b] at b';cases b'
 ·rw[b] at b';injection b' with b';subst b';exact⟨rfl,rfl,rfl⟩
theorem B_cut(s:ByteArray)(i j:Nat):s.extract i j=B ((s.data.toList.drop i).take (j-i)):=by
 apply ByteArray.ext
 apply Array.ext'
 simp[B,ByteArray.data_extract,List.extract_eq_take_drop]
theorem run_at(s:ByteArray)(p:Nat)(hp:p≤s.size):∃m,p+m≤s.size∧(∀j (h:p+j<s.size),j<m→isPt (s[p+j]'h)=true)∧(∀h:p+m<s.size,isPt (s[p+m]'h)=false)∧
  s.extract p (p+m)=B ((s.data.toList.drop p).takeWhile isPt)∧((s.data.toList.drop p).takeWhile isPt).length=m∧(s.data.toList.drop p).dropWhile isPt=s.data.toList.drop (p+m):=by
 have el:s.data.toList.length=s.size:=by simp
 obtain⟨x,hx⟩:∃x,(s.data.toList.drop p).takeWhile isPt=x:=⟨_,rfl⟩
 obtain⟨r,hr⟩:∃r,(s.data.toList.drop p).dropWhile isPt=r:=⟨_,rfl⟩
 have hL:s.data.toList.drop p=x++r:=by rw[←hx,←hr];exact(List.takeWhile_append_dropWhile).symm
 have hlen:x.length+r.length=s.size-p:=by rw[←List.length_append,←hL,List.length_drop,el]
 have hat:∀j (h:p+j<s.size),(x++r)[j]?=some (s[p+j]'h):=fun j h=>by
  rw[←hL,List.getElem?_drop,List.getElem?_eq_getElem (by omega)];rfl
 have hall:x.all isPt=true:=by rw[←hx];exact all_run _
 refine⟨x.length,by omega, ?_, ?_, ?_,by rw[hx], ?_⟩
 ·intro j h hj
  have:=hat j h
  rw[List.getElem?_append_left hj,List.getElem?_eq_getElem hj] at this
  rw[←Option.some.inj this]
  exact List.all_eq_true.1 hall _ (List.getElem_mem hj)
 ·intro h
  have:=hat x.length h
  rw[List.getElem?_append_right (Nat.le_refl _),Nat.sub_self] at this
  cases r with
  |nil=>simp at this
  |cons d u=>
   simp at this
   rw[←this]
   have hd:=List.head?_dropWhile_not isPt (s.data.toList.drop p)
   rw[hr] at hd
   simpa using hd
 ·rw[B_cut,hx,hL,show p+x.length-p=x.length by omega,List.take_left]
 ·rw[hr,←List.drop_drop,hL,List.drop_left]
theorem TokOwn.row{w:World}{base:Nat}{v:Value}{ts:List Tok}(h:TokOwn w base v ts):w.ownsRow base 87 4 v ts.length (cellsOf ts):=h
theorem drop_cons(s:ByteArray)(p:Nat)(h:p<s.size):s.data.toList.drop p=(s[p]'h)::s.data.toList.drop (p+1):=by
 have el:s.data.toList.length=s.size:=by simp
 rw[List.drop_eq_getElem_cons (by omega)];rfl
theorem byte_eq{c d:UInt8}(n:Int)(hd:(d.toNat:Int)=n):((c.toNat:Int)==n)=(c==d):=by
 apply Bool.eq_iff_iff.2
 simp only[beq_iff_eq]
 constructor
 ·intro e;exact UInt8.toNat_inj.1 (by omega)
 ·rintro rfl;exact hd
theorem bl_bytes(c:UInt8):isBl c=(((c.toNat:Int)==32)||((c.toNat:Int)==10)):=by
 rw[byte_eq (d:=32) 32 rfl,byte_eq (d:=10) 10 rfl];rfl
theorem sg_bytes(c:UInt8):isSg c=(((c.toNat:Int)==40)||((c.toNat:Int)==41)||((c.toNat:Int)==44)):=by
 rw[byte_eq (d:=40) 40 rfl,byte_eq (d:=41) 41 rfl,byte_eq (d:=44) 44 rfl];rfl
end Go.Proofs.YtjhjdiaomnpkmaaGreatDoor

namespace Go.Proofs.YtjhjdiaomnpkmaaGreatDoor
open Go.Lib
def lxP(p:Nat)(l:List UInt8):List Tok×Option Nat:=
 match l with
 |[]=>([(5,[],0,(p:Int))],none)
 |c::t=>
  if isBl c then lxP (p+1) t
  else if isSg c then ((4,[c],0,(p:Int))::(lxP (p+1) t).1,(lxP (p+1) t).2)
  else
   match h:tokOf ((c::t).takeWhile isPt) with
   |none=>([],some p)
   |some kn=>((kn.1,(c::t).takeWhile isPt,kn.2,(p:Int))::(lxP (p+((c::t).takeWhile isPt).length) ((c::t).dropWhile isPt)).1,(lxP (p+((c::t).takeWhile isPt).length) ((c::t).dropWhile isPt)).2)
 termination_by l.length
 decreasing_by
  all_goals simp_wf
  all_goals
   have h1:=tokOf_ne (k:=kn.1) (n:=kn.2) h
   have h2:=run_len (c::t)
   have h3:1≤((c::t).takeWhile isPt).length:=by
    rcases hx:(c::t).takeWhile isPt with _|⟨a,b⟩
    ·exact absurd hx h1
    ·simp
   simp at h2 h3⊢
   omega
theorem lxP_nil(p:Nat):lxP p []=([(5,[],0,(p:Int))],none):=by rw[lxP]
theorem lxP_blank(p:Nat)(c:UInt8)(t:List UInt8)(h:isBl c=true):lxP p (c::t)=lxP (p+1) t:=by rw[lxP,if_pos h]
theorem lxP_sign(p:Nat)(c:UInt8)(t:List UInt8)(h:isBl c=false)(h':isSg c=true):lxP p (c::t)=((4,[c],0,(p:Int))::(lxP (p+1) t).1,(lxP (p+1) t).2):=by
 rw[lxP,if_neg (by rw[h];simp),if_pos h']
theorem lxP_bad(p:Nat)(c:UInt8)(t:List UInt8)(h:isBl c=false)(h':isSg c=false)(hn:tokOf ((c::t).takeWhile isPt)=none):lxP p (c::t)=([],some p):=by
 rw[lxP,if_neg (by rw[h];simp),if_neg (by rw[h'];simp)]
 split
 ·rfl
 ·rename_i h2;rw[hn] at h2;cases h2
theorem lxP_tok(p:Nat)(c:UInt8)(t:List UInt8)(k n:Int)(h:isBl c=false)(h':isSg c=false)(hn:tokOf ((c::t).takeWhile isPt)=some (k,n)):
  lxP p (c::t)=((k,(c::t).takeWhile isPt,n,(p:Int))::(lxP (p+((c::t).takeWhile isPt).length) ((c::t).dropWhile isPt)).1,(lxP (p+((c::t).takeWhile isPt).length) ((c::t).dropWhile isPt)).2):=by
 rw[lxP,if_neg (by rw[h];simp),if_neg (by rw[h'];simp)]
 split
 ·rename_i h2;rw[hn] at h2;cases h2
 ·rename_i kn h2;rw[hn] at h2;cases h2;rfl
def outP(r:List Tok×Option Nat):Scan:=match r.2 with
 |none=> .ok r.1
 |some k=> .error k
theorem lx_outP:∀(m:Nat)(s:List UInt8),s.length≤m→∀p:Nat,lx p s=outP (lxP p s):=by
 intro m
 induction m with
 |zero=>
  intro s hs p
  obtain rfl:s=[]:=List.length_eq_zero_iff.1 (by omega)
  rw[lx_nil,lxP_nil];rfl
 |succ m ih=>
  intro s hs p
  cases s with
  |nil=>rw[lx_nil,lxP_nil];rfl
  |cons c t=>
   simp only[List.length_cons] at hs
   have hp:∀(x:Tok)(r:List Tok×Option Nat),pre [x] (outP r)=outP (x::r.1,r.2):=fun x r=>by
    obtain⟨a,b⟩:=r
    cases b<;>rfl
   cases hb:isBl c
   ·cases hg:isSg c
    ·cases hn:tokOf ((c::t).takeWhile isPt) with
     |none=>rw[lx_bad _ c t hb hg hn,lxP_bad _ c t hb hg hn];rfl
     |some kn=>
      obtain⟨k,j⟩:=kn
      have hx:=tokOf_ne hn
      have h2:=run_len (c::t)
      have h3:1≤((c::t).takeWhile isPt).length:=by
       rcases hx':(c::t).takeWhile isPt with _|⟨a,b⟩
       ·exact absurd hx' hx
       ·simp
      simp only[List.length_cons] at h2
      rw[lx_tok _ c t k j hb hg hn,lxP_tok _ c t k j hb hg hn,ih _ (by omega),hp]
    ·rw[lx_sign _ c t hb hg,lxP_sign _ c t hb hg,ih t (by omega),hp]
   ·rw[lx_blank _ c t hb,lxP_blank _ c t hb,ih t (by omega)]
def AtP(l:List UInt8)(p:Nat)(ts:List Tok):Prop:=lxP 0 l=(ts++(lxP p (l.drop p)).1,(lxP p (l.drop p)).2)∧ts.length≤p
theorem AtP.start(l:List UInt8):AtP l 0 []:=⟨rfl,Nat.le_refl _⟩
theorem AtP.blank{l:List UInt8}{p:Nat}{ts:List Tok}{c:UInt8}{t:List UInt8}(h:AtP l p ts)(hp:l.drop p=c::t)(hb:isBl c=true):AtP l (p+1) ts:=by
 have e:l.drop (p+1)=t:=by rw[←List.drop_drop,hp];rfl
 exact⟨by rw[h.1,hp,lxP_blank _ _ _ hb,e],by have:=h.2;omega⟩
theorem AtP.sign{l:List UInt8}{p:Nat}{ts:List Tok}{c:UInt8}{t:List UInt8}(h:AtP l p ts)(hp:l.drop p=c::t)(hb:isSg c=true):AtP l (p+1) (ts++[(4,[c],0,(p:Int))])∧∃r,(lxP 0 l).1=ts++(4,[c],0,(p:Int))::r:=by
 have e:l.drop (p+1)=t:=by rw[←List.drop_drop,hp];rfl
 refine⟨⟨by rw[h.1,hp,lxP_sign _ _ _ (sg_not hb).1 hb,e];simp,by have:=h.2;simp;omega⟩,(lxP (p+1) t).1, ?_⟩
 rw[h.1,hp,lxP_sign _ _ _ (sg_not hb).1 hb]
theorem AtP.tok{l:List UInt8}{p e:Nat}{ts:List Tok}{c:UInt8}{t x:List UInt8}{k n:Int}(h:AtP l p ts)(hp:l.drop p=c::t)(hb:isBl c=false)(hg:isSg c=false)
  (hx:(l.drop p).takeWhile isPt=x) (hm:p+x.length=e) (hd:(l.drop p).dropWhile isPt=l.drop e) (ht:tokOf x=some (k,n)):AtP l e (ts++[(k,x,n,(p:Int))])∧∃r,(lxP 0 l).1=ts++(k,x,n,(p:Int))::r:=by
 have hm1:1≤x.length:=by
  have:=tokOf_ne ht
  rcases x with _|⟨a,b⟩
  ·exact absurd rfl this
  ·simp
 rw[hp] at hx hd
 have q:=lxP_tok p c t k n hb hg (by rw[hx];exact ht)
 rw[hx,hd,hm] at q
 refine⟨⟨by rw[h.1,hp,q];simp,by have:=h.2;simp;omega⟩,(lxP e (l.drop e)).1, ?_⟩
 rw[h.1,hp,q]
theorem AtP.bad{l:List UInt8}{p:Nat}{ts:List Tok}{c:UInt8}{t x:List UInt8}(h:AtP l p ts)(hp:l.drop p=c::t)(hb:isBl c=false)(hg:isSg c=false)
  (hx:(l.drop p).takeWhile isPt=x) (ht:tokOf x=none):lxP 0 l=(ts,some p):=by
 rw[hp] at hx
 rw[h.1,hp,lxP_bad _ _ _ hb hg (by rw[hx];exact ht)];simp
theorem AtP.done{l:List UInt8}{ts:List Tok}(h:AtP l l.length ts):lxP 0 l=(ts++[(5,[],0,(l.length:Int))],none):=by
 rw[h.1,List.drop_length,lxP_nil]
def pcOf(l:List UInt8):List UInt8:=if l.takeWhile isPt=[] then l.take 1 else l.takeWhile isPt
def told:List UInt8→Option (Int×Int)
 |[]=>none
 |c::t=>if isSg c then some (4,0) else tokOf (c::t)
theorem told_sign{c:UInt8}{t:List UInt8}(h:isSg c=true):told (c::t)=some (4,0):=by simp only[told];rw[if_pos h]
theorem told_not{c:UInt8}{t:List UInt8}(h:isSg c=false):told (c::t)=tokOf (c::t):=by simp only[told];rw[if_neg (by rw[h];simp)]
theorem take_pt{c:UInt8}{t:List UInt8}(h:isPt c=true):∃y,(c::t).takeWhile isPt=c::y:=⟨t.takeWhile isPt,by rw[List.takeWhile_cons,h];rfl⟩
theorem take_not{c:UInt8}{t:List UInt8}(h:isPt c=false):(c::t).takeWhile isPt=[]:=by rw[List.takeWhile_cons,h];rfl
theorem pc_pt{c:UInt8}{t:List UInt8}(h:isPt c=true):pcOf (c::t)=(c::t).takeWhile isPt:=by
 obtain⟨y,e⟩:=take_pt (t:=t) h
 unfold pcOf;rw[e,if_neg (by simp)]
theorem pc_not{c:UInt8}{t:List UInt8}(h:isPt c=false):pcOf (c::t)=[c]:=by
 unfold pcOf;rw[take_not h,if_pos rfl];rfl
theorem pc_head(c:UInt8)(t:List UInt8):∃y,pcOf (c::t)=c::y:=by
 cases h:isPt c
 ·exact⟨[],pc_not h⟩
 ·rw[pc_pt h];exact take_pt h
theorem pc_len_le(l:List UInt8):(pcOf l).length≤l.length:=by
 unfold pcOf
 split
 ·exact List.length_take_le' _ _
 ·exact(List.takeWhile_sublist _).length_le
theorem pc_max(c:UInt8)(t:List UInt8):pcOf (c::t)=(c::t).take (max ((c::t).takeWhile isPt).length 1)∧(pcOf (c::t)).length=max ((c::t).takeWhile isPt).length 1:=by
 cases h:isPt c
 ·rw[pc_not h,take_not h];exact⟨rfl,rfl⟩
 ·obtain⟨y,e⟩:=take_pt (t:=t) h
  have e2:(c::t).takeWhile isPt++(c::t).dropWhile isPt=c::t:=List.takeWhile_append_dropWhile
  have m:max ((c::t).takeWhile isPt).length 1=((c::t).takeWhile isPt).length:=by rw[e];simp
  rw[pc_pt h,m]
  refine⟨?_,rfl⟩
  have e3:(c::t).take ((c::t).takeWhile isPt).length=((c::t).takeWhile isPt++(c::t).dropWhile isPt).take ((c::t).takeWhile isPt).length:=by rw[e2]
  rw[e3,List.take_left]
theorem tok_char{c:UInt8}(h:isPt c=false):tokOf [c]=none:=by
 simp only[isPt,Bool.or_eq_false_iff] at h
 unfold tokOf
 rw[word_head (c:=c) rfl h.1.1,name_head (c:=c) rfl h.1.1,cnt_not (l:=[c]) (by simp[allD,h.1.2]),ref_short (l:=[c]) (by unfold body;split<;>simp),if_neg (by simp),if_neg (by omega)]
theorem AtP.piece{l:List UInt8}{p:Nat}{ts:List Tok}{c:UInt8}{t:List UInt8}(h:AtP l p ts)(hp:l.drop p=c::t)(hb:isBl c=false):
  (∃k n,told (pcOf (c::t))=some (k,n)∧AtP l (p+(pcOf (c::t)).length) (ts++[(k,pcOf (c::t),n,(p:Int))])∧∃r,(lxP 0 l).1=ts++(k,pcOf (c::t),n,(p:Int))::r)∨
  (told (pcOf (c::t))=none∧lxP 0 l=(ts,some p)):=by
 cases hg:isSg c
 ·cases hpt:isPt c
  ·refine .inr ⟨?_,h.bad hp hb hg (x:=[]) (by rw[hp];exact take_not hpt) tokOf_nil⟩
   rw[pc_not hpt,told_not hg];exact tok_char hpt
  ·obtain⟨y,e⟩:=take_pt (t:=t) hpt
   have e2:told (pcOf (c::t))=tokOf (pcOf (c::t)):=by rw[pc_pt hpt,e];exact told_not hg
   rw[e2,pc_pt hpt]
   cases ht:tokOf ((c::t).takeWhile isPt) with
   |none=>exact .inr ⟨rfl,h.bad hp hb hg (by rw[hp]) ht⟩
   |some kn=>
    obtain⟨k,n⟩:=kn
    refine .inl ⟨k,n,rfl,h.tok hp hb hg (by rw[hp]) rfl ?_ ht⟩
    have e3:(c::t).takeWhile isPt++(c::t).dropWhile isPt=c::t:=List.takeWhile_append_dropWhile
    have e4:l.drop (p+((c::t).takeWhile isPt).length)=((c::t).takeWhile isPt++(c::t).dropWhile isPt).drop ((c::t).takeWhile isPt).length:=by rw[←List.drop_drop,hp,e3]
    rw[hp,e4,List.drop_left]
 ·have hpt:=(sg_not hg).2
  rw[pc_not hpt]
  obtain⟨a,b⟩:=h.sign hp hg
  exact .inl ⟨4,0,told_sign hg,a,b⟩
end Go.Proofs.YtjhjdiaomnpkmaaGreatDoor

namespace Go.Proofs
open Go.Shelf
def Tryz.lays103_ren:Go.Shelf.Ren:=⟨fun|103=>120|210=>128|206=>132|n=>n,fun|9=>9|4=>4|24=>138|3=>3|n=>n,fun|n=>n⟩
theorem Tryz.lays103:Go.Proofs.Lays.n103 Tryz.prog Tryz.lays103_ren:={
 mixed:=by kernel_rfl
 f103:=Tryz.func120.trans (congrArg some (by kernel_rfl))
 f206:=Tryz.func132.trans (congrArg some (by kernel_rfl))
 f210:=Tryz.func128.trans (congrArg some (by kernel_rfl))
 t3:=Tryz.underlying3
 a3:=Tryz.isAgg3
 z3:=Tryz.sizeOf3
 v3:=Tryz.zeroValue3
 t4:=Tryz.underlying4
 a4:=Tryz.isAgg4
 z4:=Tryz.sizeOf4
 v4:=Tryz.zeroValue4
 t9:=Tryz.underlying9
 a9:=Tryz.isAgg9
 z9:=Tryz.sizeOf9
 v9:=Tryz.zeroValue9
 t24:=Tryz.underlying138
 a24:=Tryz.isAgg138
 z24:=Tryz.sizeOf138
 v24:=Tryz.zeroValue138}
open Go.RowKit in
theorem Tryz.strings_CutPrefix(s p:ByteArray)(w:World):
  Calls Tryz.prog 120 #[.string s,.string p] w fun e w'=>e= .returned (.tuple #[.string ⟨(Lib.trimPrefix s.data.toList p.data.toList).toArray⟩,.bool (Lib.hasPrefix s.data.toList p.data.toList)])∧w'=w:=Any.strings_CutPrefix Tryz.lays103 s p w
def Tryz.laysM171_ren:Go.Shelf.Ren:=⟨fun|171=>116|243=>127|246=>131|283=>134|284=>135|285=>136|286=>137|129=>143|317=>142|318=>144|319=>145|320=>146|337=>149|338=>150|n=>n,fun|3=>3|9=>9|2=>2|4=>4|171=>148|0=>0|53=>149|37=>93|5=>5|173=>152|212=>156|51=>157|20=>20|213=>158|46=>155|232=>163|233=>164|n=>n,fun|17=>1|18=>2|19=>3|n=>n⟩
theorem Tryz.laysM171:Go.Proofs.LaysM.n171 Tryz.prog Tryz.laysM171_ren:={
 mixed:=by kernel_rfl
 f129:=Tryz.func143.trans (congrArg some (by kernel_rfl))
 f171:=Tryz.func116.trans (congrArg some (by kernel_rfl))
 f243:=Tryz.func127.trans (congrArg some (by kernel_rfl))
 f246:=Tryz.func131.trans (congrArg some (by kernel_rfl))
 f283:=Tryz.func134.trans (congrArg some (by kernel_rfl))
 f284:=Tryz.func135.trans (congrArg some (by kernel_rfl))
 f285:=Tryz.func136.trans (congrArg some (by kernel_rfl))
 f286:=Tryz.func137.trans (congrArg some (by kernel_rfl))
 f317:=Tryz.func142.trans (congrArg some (by kernel_rfl))
 f318:=Tryz.func144.trans (congrArg some (by kernel_rfl))
 f319:=Tryz.func145.trans (congrArg some (by kernel_rfl))
 f320:=Tryz.func146.trans (congrArg some (by kernel_rfl))
 f337:=Tryz.func149.trans (congrArg some (by kernel_rfl))
 f338:=Tryz.func150.trans (congrArg some (by kernel_rfl))
 t0:=Tryz.underlying0
 a0:=Tryz.isAgg0
 z0:=Tryz.sizeOf0
 v0:=Tryz.zeroValue0
 t2:=Tryz.underlying2
 a2:=Tryz.isAgg2
 z2:=Tryz.sizeOf2
 v2:=Tryz.zeroValue2
 t3:=Tryz.underlying3
 a3:=Tryz.isAgg3
 z3:=Tryz.sizeOf3
 v3:=Tryz.zeroValue3
 t4:=Tryz.underlying4
 a4:=Tryz.isAgg4
 z4:=Tryz.sizeOf4
 v4:=Tryz.zeroValue4
 t5:=Tryz.underlying5
 a5:=Tryz.isAgg5
 z5:=Tryz.sizeOf5
 v5:=Tryz.zeroValue5
 t9:=Tryz.underlying9
 a9:=Tryz.isAgg9
 z9:=Tryz.sizeOf9
 v9:=Tryz.zeroValue9
 t20:=Tryz.underlying20
 a20:=Tryz.isAgg20
 z20:=Tryz.sizeOf20
 v20:=Tryz.zeroValue20
 t37:=Tryz.underlying93
 a37:=Tryz.isAgg93
 z37:=Tryz.sizeOf93
 v37:=Tryz.zeroValue93
 t46:=Tryz.underlying155
 a46:=Tryz.isAgg155
 z46:=Tryz.sizeOf155
 v46:=Tryz.zeroValue155
 t51:=Tryz.underlying157
 a51:=Tryz.isAgg157
 z51:=Tryz.sizeOf157
 v51:=Tryz.zeroValue157
 t53:=Tryz.underlying149
 a53:=Tryz.isAgg149
 z53:=Tryz.sizeOf149
 v53:=Tryz.zeroValue149
 t171:=Tryz.underlying148
 a171:=Tryz.isAgg148
 z171:=Tryz.sizeOf148
 v171:=Tryz.zeroValue148
 t173:=Tryz.underlying152
 a173:=Tryz.isAgg152
 z173:=Tryz.sizeOf152
 v173:=Tryz.zeroValue152
 t212:=Tryz.underlying156
 a212:=Tryz.isAgg156
 z212:=Tryz.sizeOf156
 v212:=Tryz.zeroValue156
 t213:=Tryz.underlying158
 a213:=Tryz.isAgg158
 z213:=Tryz.sizeOf158
 t232:=Tryz.underlying163
 a232:=Tryz.isAgg163
 z232:=Tryz.sizeOf163
 v232:=Tryz.zeroValue163
 t233:=Tryz.underlying164
 a233:=Tryz.isAgg164
 z233:=Tryz.sizeOf164
 v233:=Tryz.zeroValue164
 g17:=by kernel_rfl
 g18:=by kernel_rfl
 g19:=by kernel_rfl
 i0:=by kernel_rfl
 i2:=by kernel_rfl
 i3:=by kernel_rfl
 i4:=by kernel_rfl
 i5:=by kernel_rfl
 i9:=by kernel_rfl
 i20:=by kernel_rfl
 i37:=by kernel_rfl
 i46:=by kernel_rfl
 i51:=by kernel_rfl
 i53:=by kernel_rfl
 i171:=by kernel_rfl
 i173:=by kernel_rfl
 i212:=by kernel_rfl
 i232:=by kernel_rfl
 i233:=by kernel_rfl
 m17:=by kernel_rfl
 m18:=by kernel_rfl
 m19:=by kernel_rfl}
open Go.RowKit Go.Sort Go.Lib in
theorem Tryz.strconv_Itoa(n:Int)(h0: -9223372036854775808≤n)(h1:n≤9223372036854775807)(w:World)(htab:Lib.TabIs Tryz.prog w "internal/strconv.uint64pow10" .u64 Lib.pow10Tab):
  Calls Tryz.prog 116 #[.int .i64 n] w fun e w'=>e= .returned (.string ⟨(Lib.itoa n).toArray⟩)∧∃k os,w'=grow (w.drewN k) os:=Any.strconv_Itoa Tryz.laysM171 n h0 h1 w htab
def Tryz.laysM316_ren:Go.Shelf.Ren:=⟨fun|316=>123|n=>n,fun|9=>9|3=>3|4=>4|37=>93|0=>0|127=>129|5=>5|n=>n,fun|n=>n⟩
theorem Tryz.laysM316:Go.Proofs.LaysM.n316 Tryz.prog Tryz.laysM316_ren:={
 mixed:=by kernel_rfl
 f316:=Tryz.func123.trans (congrArg some (by kernel_rfl))
 t0:=Tryz.underlying0
 a0:=Tryz.isAgg0
 z0:=Tryz.sizeOf0
 v0:=Tryz.zeroValue0
 t3:=Tryz.underlying3
 a3:=Tryz.isAgg3
 z3:=Tryz.sizeOf3
 v3:=Tryz.zeroValue3
 t4:=Tryz.underlying4
 a4:=Tryz.isAgg4
 z4:=Tryz.sizeOf4
 v4:=Tryz.zeroValue4
 t9:=Tryz.underlying9
 a9:=Tryz.isAgg9
 z9:=Tryz.sizeOf9
 v9:=Tryz.zeroValue9
 t37:=Tryz.underlying93
 a37:=Tryz.isAgg93
 z37:=Tryz.sizeOf93
 v37:=Tryz.zeroValue93
 t127:=Tryz.underlying129
 a127:=Tryz.isAgg129
 z127:=Tryz.sizeOf129
 v127:=Tryz.zeroValue129
 t5:=Tryz.underlying5
 a5:=Tryz.isAgg5
 z5:=Tryz.sizeOf5
 v5:=Tryz.zeroValue5
 i0:=by kernel_rfl
 i3:=by kernel_rfl
 i4:=by kernel_rfl
 i5:=by kernel_rfl
 i9:=by kernel_rfl
 i37:=by kernel_rfl
 i127:=by kernel_rfl}
open Go.RowKit in
theorem Tryz.stringslite_Clone(s:ByteArray)(w:World)(hlim:s.size≤281474976710656):
  Calls Tryz.prog 123 #[.string s] w fun e w'=>e= .returned (.string s)∧Below w.heap.size w w':=Any.stringslite_Clone Tryz.laysM316 s w hlim
def Tryz.lays219_ren:Go.Shelf.Ren:=⟨fun|219=>133|217=>138|225=>139|224=>140|267=>141|266=>147|314=>148|n=>n,fun|9=>9|3=>3|4=>4|5=>5|46=>155|146=>160|51=>157|n=>n,fun|1=>0|n=>n⟩
theorem Tryz.lays219:Go.Proofs.Lays.n219 Tryz.prog Tryz.lays219_ren:={
 mixed:=by kernel_rfl
 f217:=Tryz.func138.trans (congrArg some (by kernel_rfl))
 f219:=Tryz.func133.trans (congrArg some (by kernel_rfl))
 f224:=Tryz.func140.trans (congrArg some (by kernel_rfl))
 f225:=Tryz.func139.trans (congrArg some (by kernel_rfl))
 f266:=Tryz.func147.trans (congrArg some (by kernel_rfl))
 f267:=Tryz.func141.trans (congrArg some (by kernel_rfl))
 f314:=Tryz.func148.trans (congrArg some (by kernel_rfl))
 t3:=Tryz.underlying3
 a3:=Tryz.isAgg3
 z3:=Tryz.sizeOf3
 v3:=Tryz.zeroValue3
 t4:=Tryz.underlying4
 a4:=Tryz.isAgg4
 z4:=Tryz.sizeOf4
 v4:=Tryz.zeroValue4
 t5:=Tryz.underlying5
 a5:=Tryz.isAgg5
 z5:=Tryz.sizeOf5
 v5:=Tryz.zeroValue5
 t9:=Tryz.underlying9
 a9:=Tryz.isAgg9
 z9:=Tryz.sizeOf9
 v9:=Tryz.zeroValue9
 t46:=Tryz.underlying155
 a46:=Tryz.isAgg155
 z46:=Tryz.sizeOf155
 v46:=Tryz.zeroValue155
 t51:=Tryz.underlying157
 a51:=Tryz.isAgg157
 z51:=Tryz.sizeOf157
 v51:=Tryz.zeroValue157
 t146:=Tryz.underlying160
 a146:=Tryz.isAgg160
 z146:=Tryz.sizeOf160
 v146:=Tryz.zeroValue160
 g1:=by kernel_rfl}
open Go.RowKit Go.Lib in
theorem Tryz.stringslite_Index_one(s:ByteArray)(c:UInt8)(w:World):
  Calls Tryz.prog 133 #[.string s,.string ⟨#[c]⟩] w fun e w'=>e= .returned (.int .i64 (Lib.indexByte s.data.toList c))∧w'=w:=Any.stringslite_Index_one Tryz.lays219 s c w
end Go.Proofs

namespace Go.Proofs.YtjhjdiaomnpkmaaGreatDoor
open Go.RowKit Go.Lib
def wit(a l h:Int):Bool:=decide (l≤a∧a≤h)
theorem within_any(a l h:Int)(w:World):
  Calls Tryz.prog 126 #[.int .i64 a,.int .i64 l,.int .i64 h] w fun e w'=>e= .returned (.bool (wit a l h))∧w=w':=by
 by_cases h1:l≤a<;>by_cases h2:a≤h
 all_goals
  go_enter Tryz.func126,Tryz.ntmps126
  go_wp2
  all_goals
   go_ret
   exact⟨ret_bool (by unfold wit;rw[eq_comm];first|exact decide_eq_true (by omega)|exact decide_eq_false (by omega)),rfl⟩
theorem right_any(a:Int)(w:World):
  Calls Tryz.prog 115 #[.int .i64 a] w fun e w'=>e= .returned (.bool (rt a))∧w=w':=by
 by_cases h1: -1000000000000≤a<;>by_cases h2:a≤1000000000000
 all_goals
  go_enter Tryz.func115,Tryz.ntmps115
  go_wp2
  all_goals
   go_ret
   exact⟨ret_bool (by unfold rt;rw[eq_comm];first|exact decide_eq_true (by omega)|exact decide_eq_false (by omega)),rfl⟩
theorem digs_no(most acc:Int)(c:UInt8)(t:List UInt8)(h:c.toNat<48∨57<c.toNat):digs most (c::t) acc= -1:=by
 unfold digs
 rw[if_neg]
 simp[isD];omega
theorem digs_big(most acc:Int)(c:UInt8)(t:List UInt8)(h:48≤c.toNat)(h':c.toNat≤57)(hm:most<acc*10+((c.toNat:Int)-48)):digs most (c::t) acc= -1:=by
 unfold digs
 rw[if_pos (isD_iff.2 ⟨h,h'⟩),if_pos hm]
theorem digs_go(most acc:Int)(c:UInt8)(t:List UInt8)(h:48≤c.toNat)(h':c.toNat≤57)(hm:acc*10+((c.toNat:Int)-48)≤most):digs most (c::t) acc=digs most t (acc*10+((c.toNat:Int)-48)):=by
 conv=>lhs;unfold digs
 rw[if_pos (isD_iff.2 ⟨h,h'⟩),if_neg (by omega)]
theorem digits_prog(s:ByteArray)(most:Int)(hm:most≤1000000000000)(w0 w:World)(hr:Rel w0 w):
  Calls Tryz.prog 119 #[.string s,.int .i64 most] w fun e w'=>e= .returned (.int .i64 (digs most s.data.toList 0))∧Rel w0 w':=by
 go_enter Tryz.func119,Tryz.ntmps119
 go_wp2
 go_loopw [5] (fun n w'=>∃(pos:Nat)(acc:Int),w'=w.iter s pos∧n= .int .i64 acc∧0≤acc∧acc≤1000000000000∧Hid (digs most (s.data.toList.drop pos) acc=digs most s.data.toList 0)) (fun _ w'=>s.size-w'.iterPos w.heap.size)
 case atStart=>exact⟨0,0,rfl,rfl,by omega,by omega,yH rfl⟩
 case round=>
  obtain⟨pos,acc,rfl,rfl,h0,h1,HH⟩:=hrel
  by_cases hp:pos<s.size
  ·by_cases ha:(s[pos]'hp).toNat<128
   ·obtain⟨c,hc⟩:∃c,c=s[pos]'hp:=⟨_,rfl⟩
    have hnx:∀ty,(Instr.next (.pointer (some ⟨w.heap.size,0,none⟩)) true ty).run Tryz.prog (w.iter s pos)= .ok (.tuple #[.bool true,.int .i64 pos,.int .i32 (c.toNat:Int)]) (w.iter s (pos+1)):=fun ty=>by rw[hc];exact run_next_ascii w s pos ty hp ha
    have HD:=yH (drop_step s pos hp)
    rw[←hc] at HD
    have ha':c.toNat<128:=by rw[hc];exact ha
    clear hc
    generalize hk:c.toNat=k at hnx ha'
    have HK:=yH hk
    clear hk ha
    by_cases g1:k<48
    ·go_wp2
     go_ret
     exact⟨ret_int (by rw[←HH.out,HD.out,digs_no _ _ _ _ (.inl (by rw[HK.out];exact g1))]),hr.alloc _⟩
    ·by_cases g2:57<k
     ·go_wp2
      go_ret
      exact⟨ret_int (by rw[←HH.out,HD.out,digs_no _ _ _ _ (.inr (by rw[HK.out];exact g2))]),hr.alloc _⟩
     ·by_cases g3:most<acc*10+((k:Int)-48)
      ·go_wp2
       go_ret
       exact⟨ret_int (by rw[←HH.out,HD.out,digs_big _ _ _ _ (by rw[HK.out];omega) (by rw[HK.out];omega) (by rw[HK.out];exact g3)]),hr.alloc _⟩
      ·go_wp2
       go_roundw
       case rel=>
           exact⟨pos+1,acc*10+((k:Int)-48),rfl,rfl,by omega,by omega,yH (by rw[←HH.out,HD.out,digs_go _ _ _ _ (by rw[HK.out];omega) (by rw[HK.out];omega) (by rw[HK.out];omega),HK.out])⟩
       case measure=>
           simp
           omega
   ·have hh:=(decode_high s pos hp (by omega)).1
    have HN:=yH (digs_no most acc (s[pos]'hp) (s.data.toList.drop (pos+1)) (.inr (by omega)))
    have HD:=yH (drop_step s pos hp)
    have hnx:∀ty,(Instr.next (.pointer (some ⟨w.heap.size,0,none⟩)) true ty).run Tryz.prog (w.iter s pos)=_:=fun ty=>run_next_any w s pos ty hp
    generalize (Utf8.decode s pos).1=k at hh hnx
    clear ha
    have hh2: ¬k<48:=by omega
    have hh3:57<k:=by omega
    go_wp2
    go_ret
    exact⟨ret_int (by rw[←HH.out,HD.out,HN.out]),hr.alloc _⟩
  ·have hnx:∀ty,(Instr.next (.pointer (some ⟨w.heap.size,0,none⟩)) true ty).run Tryz.prog (w.iter s pos)=_:=fun ty=>run_next_end w s pos ty hp
   have HD:=yH (drop_end s pos hp)
   go_wp2
   go_ret
   exact⟨ret_int (by rw[←HH.out,HD.out];rfl),hr.alloc _⟩
theorem cnt_digs(c:UInt8)(t:List UInt8)(most:Int)(h:t.length=0∨c.toNat≠48):digs (min most 1000000000000) (B (c::t)).data.toList 0=cnt (c::t) most:=by
 rw[B_list]
 refine cnt_prog _ _ rfl ?_
 rcases h with h|h
 ·left;simp[h]
 ·right;intro e;simp at e;exact h (by rw[e];rfl)
theorem count_list(l:List UInt8)(most:Int)(hl:l.length≤9223372036854775807)(w0 w:World)(hr:Rel w0 w):
  Calls Tryz.prog 105 #[.string (B l),.int .i64 most] w fun e w'=>e= .returned (.int .i64 (cnt l most))∧Rel w0 w':=by
 cases l with
 |nil=>
  have HT:=B_toList []
  go_enter Tryz.func105,Tryz.ntmps105
  go_wp2_with (fail)
  go_ret
  exact⟨ret_int (cnt_no (.inl rfl)).symm,hr⟩
 |cons c t=>
  have HT:=B_toList (c::t)
  have HB:=B_size (c::t)
  have H0:=B_zero c t
  go_enter Tryz.func105,Tryz.ntmps105
  go_wp2_with ((go_at_call 119;(with_reducible refine(digits_prog _ _ (by omega) _ _ hr).mono ?_);rintro e w' ⟨rfl,hr'⟩))
  ·have h1:1<(t.length:Int)+1:=by assumption
   have h2:((c.toNat:Int)==48)=true:=by assumption
   have h3:c=48:=UInt8.toNat_inj.1 (by rw[show(48:UInt8).toNat=48 from rfl];simp only[beq_iff_eq] at h2;omega)
   go_ret
   exact⟨ret_int (cnt_no (.inr ⟨by simp;omega,by rw[h3];rfl⟩)).symm,hr⟩
  ·have h2:((c.toNat:Int)==48)=false:=by assumption
   go_ret
   exact⟨ret_int (cnt_digs c t most (.inr (by simp only[beq_eq_false_iff_ne] at h2;omega))),by assumption⟩
  ·have h1:(t.length:Int)+1≤1:=by assumption
   go_ret
   exact⟨ret_int (cnt_digs c t most (.inl (by omega))),by assumption⟩
theorem count_any(s:ByteArray)(most:Int)(hl:s.size≤9223372036854775807)(w0 w:World)(hr:Rel w0 w):
  Calls Tryz.prog 105 #[.string s,.int .i64 most] w fun e w'=>e= .returned (.int .i64 (cnt s.data.toList most))∧Rel w0 w':=by
 have:=count_list s.data.toList most (by simpa using hl) w0 w hr
 rwa [B_of] at this
theorem pair_any(s:ByteArray)(w0 w:World)(hr:Rel w0 w):
  Calls Tryz.prog 122 #[.string s] w fun e w'=>e= .returned (.int .i64 (pair s.data.toList))∧Rel w0 w':=by
 have hL:s.data.toList.length=s.size:=by simp
 by_cases h:s.size=2
 ·have HS:=yH (show digs 99 s.data.toList 0=pair s.data.toList by unfold pair;rw[if_pos (by omega)])
  have h':((s.size:Int) !=2)=false:=by simp[h]
  clear h hL
  go_enter Tryz.func122,Tryz.ntmps122
  go_wp2_with ((go_at_call 119;(with_reducible refine(digits_prog _ _ (by omega) _ _ hr).mono ?_);rintro e w' ⟨rfl,hr'⟩))
  go_ret
  exact⟨ret_int HS.out,by assumption⟩
 ·have HS:=yH (pair_no (l:=s.data.toList) (by omega))
  have h':((s.size:Int) !=2)=true:=by simp;omega
  clear h hL
  go_enter Tryz.func122,Tryz.ntmps122
  go_wp2_with (fail)
  go_ret
  exact⟨ret_int HS.out.symm,hr⟩
def dot:ByteArray:=⟨#[46]⟩
def cutA(s:ByteArray):List UInt8:=(cut s.data.toList [46]).1
def cutB(s:ByteArray):List UInt8:=(cut s.data.toList [46]).2.1
def cutC(s:ByteArray):Bool:=(cut s.data.toList [46]).2.2
theorem ret_ssb{a a' b b':ByteArray}{c c':Bool}(h:a=a')(h':b=b')(h'':c=c'):Ending.returned (.tuple #[.string a,.string b,.bool c])=Ending.returned (.tuple #[.string a',.string b',.bool c']):=by rw[h,h',h'']
theorem lcut_any(s:ByteArray)(hl:s.size≤9223372036854775807)(w0 w:World)(hr:Rel w0 w):
  Calls Tryz.prog 129 #[.string s,.string ⟨#[46]⟩] w fun e w'=>e= .returned (.tuple #[.string (B (cutA s)),.string (B (cutB s)),.bool (cutC s)])∧Rel w0 w':=by
 have ei:Lib.indexByte s.data.toList 46=Lib.indexB s dot:=(Lib.index_one s.data.toList 46).symm
 rcases Lib.indexB_cases s dot with hix|⟨i,hix,hroom⟩
 ·obtain⟨e1,e2,e3⟩:=Lib.cutB_miss s dot hix
  have f1:=yH (show s=B (cutA s) from e1.symm)
  have f2:=yH (show(⟨#[]⟩:ByteArray)=B (cutB s) from e2.symm)
  have f3:=yH (show false=cutC s from e3.symm)
  have hix':=yH (ei.trans hix)
  clear e1 e2 e3 ei hix
  go_enter Tryz.func129,Tryz.ntmps129
  go_wp2_with ((go_at_call 133;refine(int_at (R:=fun w'=>w'=_) (-1) (Tryz.stringslite_Index_one s 46 _) hix').mono ?_;rintro e w' ⟨rfl,rfl⟩))
  go_ret3
  exact⟨ret_ssb f1.out f2.out f3.out,hr⟩
 ·obtain⟨e1,e2,e3⟩:=Lib.cutB_hit s dot i hix
  have f1:=yH (show s.extract 0 i=B (cutA s) from e1.symm)
  have f2:=yH (show s.extract (i+1) s.size=B (cutB s) from e2.symm)
  have f3:=yH (show true=cutC s from e3.symm)
  have hix':=yH (ei.trans hix)
  have hd:dot.size=1:=rfl
  rw[hd] at hroom
  have c1:(0:Int)≤↑i:=by omega
  have c2:(↑i:Int)≤↑s.size:=by omega
  have c3:(0:Int)≤↑i+1:=by omega
  have c4:(↑i+1:Int)≤↑s.size:=by omega
  clear e1 e2 e3 ei hix hd
  have c5:IntKind.i64.wrap ((i:Int)+1)=(i:Int)+1:=IntWalk.i64_in _ (by omega)
  have c6:((i:Int)+1).toNat=i+1:=by omega
  go_enter Tryz.func129,Tryz.ntmps129
  go_wp2_with ((go_at_call 133;refine(int_at (R:=fun w'=>w'=_) (i:Int) (Tryz.stringslite_Index_one s 46 _) hix').mono ?_;rintro e w' ⟨rfl,rfl⟩))
  go_region
  go_wp2
  go_ret3
  exact⟨ret_ssb f1.out f2.out f3.out,hr.drew⟩
theorem cut_any(s:ByteArray)(hl:s.size≤9223372036854775807)(w0 w:World)(hr:Rel w0 w):
  Calls Tryz.prog 121 #[.string s,.string ⟨#[46]⟩] w fun e w'=>e= .returned (.tuple #[.string (B (cutA s)),.string (B (cutB s)),.bool (cutC s)])∧Rel w0 w':=by
 go_enter Tryz.func121,Tryz.ntmps121
 go_wp2_with ((go_at_call 129;(with_reducible refine(lcut_any _ hl _ _ hr).mono ?_);rintro e w' ⟨rfl,hr'⟩))
 go_ret3
 exact⟨ret_ssb rfl rfl rfl,hr'⟩
theorem trim_body(l:List UInt8):trimPrefix l [45]=body l∧hasPrefix l [45]=negL l:=by
 unfold trimPrefix hasPrefix body negL
 cases l with
 |nil=>exact⟨rfl,rfl⟩
 |cons c t=>
  by_cases h:c=45
  ·subst h;exact⟨rfl,rfl⟩
  ·have h1:((45:UInt8)==c)=false:=by simp[Ne.symm h]
   have h2:(c==(45:UInt8))=false:=by simp[h]
   simp[List.isPrefixOf,h1,h]
def bd(s:ByteArray):ByteArray:=B (body s.data.toList)
theorem bd_size(s:ByteArray):(bd s).size≤s.size:=by
 unfold bd body
 rw[B_size]
 have:s.data.toList.length=s.size:=by simp
 split
 ·rw[List.length_tail];omega
 ·omega
theorem cutp_any(s:ByteArray)(b:Bool)(hb:Hid (negL s.data.toList=b))(w0 w:World)(hr:Rel w0 w):
  Calls Tryz.prog 120 #[.string s,.string ⟨#[45]⟩] w fun e w'=>e= .returned (.tuple #[.string (bd s),.bool b])∧Rel w0 w':=by
 refine(Tryz.strings_CutPrefix s ⟨#[45]⟩ w).mono ?_
 rintro e w' ⟨rfl,rfl⟩
 obtain⟨h1,h2⟩:=trim_body s.data.toList
 refine⟨?_,hr⟩
 show Ending.returned (.tuple #[.string ⟨(trimPrefix s.data.toList [45]).toArray⟩,.bool (hasPrefix s.data.toList [45])])=_
 rw[h1,h2,hb.out]
 rfl
theorem cutA_size(s:ByteArray):(B (cutA s)).size≤s.size:=by
 rw[B_size]
 unfold cutA
 have hl:s.data.toList.length=s.size:=by simp
 unfold cut
 split
 ·rw[List.length_take];omega
 ·show s.data.toList.length≤s.size;omega
theorem parse_no{l:List UInt8}(h:cnt (cut (body l) [46]).1 10000000000<0∨pair (cut (body l) [46]).2.1<0):0=prs1 l∧20=prs2 l:=by
 unfold prs1 prs2;rw[prog_no h];exact⟨rfl,rfl⟩
theorem parse_yes{l:List UInt8}{h c:Int}{b:Bool}(e1:cnt (cut (body l) [46]).1 10000000000=h)(e2:pair (cut (body l) [46]).2.1=c)(h0:0≤h)(c0:0≤c)(eb:negL l=b):
  ((1000000000000<h*100+c∨(b=true∧h*100+c=0))→0=prs1 l∧20=prs2 l)∧((h*100+c≤1000000000000∧ ¬(b=true∧h*100+c=0))→(if b then -(h*100+c) else h*100+c)=prs1 l∧0=prs2 l):=by
 have:=prog_yes (l:=l) (by rw[e1];exact h0) (by rw[e2];exact c0)
 rw[e1,e2,eb] at this
 unfold prs1 prs2
 rw[this]
 unfold fin
 constructor
 ·intro hh
  simp only[if_pos hh]
  exact⟨rfl,rfl⟩
 ·intro hh
  have hn: ¬(1000000000000<h*100+c∨(b=true∧h*100+c=0)):=fun x=>x.elim (fun y=>by omega) hh.2
  simp only[if_neg hn]
  exact⟨rfl,rfl⟩
theorem parse_any(s:ByteArray)(hl:s.size≤9223372036854775807)(w0 w:World)(hr:Rel w0 w):
  Calls Tryz.prog 106 #[.string s] w fun e w'=>Two e (prs1 s.data.toList) (prs2 s.data.toList)∧Rel w0 w':=by
 obtain⟨b,hb⟩:∃b,negL s.data.toList=b:=⟨_,rfl⟩
 obtain⟨h,he1⟩:∃h,cnt (cut (body s.data.toList) [46]).1 10000000000=h:=⟨_,rfl⟩
 obtain⟨c,he2⟩:∃c,pair (cut (body s.data.toList) [46]).2.1=c:=⟨_,rfl⟩
 have hbd:=cnt_bd (cut (body s.data.toList) [46]).1 10000000000
 have cbd:=pair_bd (cut (body s.data.toList) [46]).2.1
 rw[he1] at hbd
 rw[he2] at cbd
 have h1: -1≤h:=by omega
 have h2:h≤10000000000:=by omega
 have c1: -1≤c:=by omega
 have c2:c≤99:=by omega
 have HB:=yH hb
 have HE1:=yH (show cnt (B (cutA (bd s))).data.toList 10000000000=h by rw[B_list];unfold cutA bd;rw[B_list];exact he1)
 have HE2:=yH (show pair (B (cutB (bd s))).data.toList=c by rw[B_list];unfold cutB bd;rw[B_list];exact he2)
 have z1:=bd_size s
 have z2:=cutA_size (bd s)
 have HN:=yH (parse_no (l:=s.data.toList))
 rw[he1,he2] at HN
 have HY:0≤h→0≤c→_:=fun x y=>parse_yes he1 he2 x y hb
 have HY:=yH HY
 clear hbd cbd he1 he2 hb
 by_cases h0:h<0
 ·go_enter Tryz.func106,Tryz.ntmps106
  go_wp2_with (first|(go_at_call 120;(with_reducible refine(cutp_any _ b HB _ _ hr).mono ?_);rintro e w' ⟨rfl,hr'⟩)|(go_at_call 121;(with_reducible refine(cut_any _ (by omega) _ _ (by assumption)).mono ?_);rintro e w' ⟨rfl,hr'⟩)|(go_at_call 105;(with_reducible refine(int_at h (count_any _ _ (by omega) _ _ (by assumption)) HE1).mono ?_);rintro e w' ⟨rfl,hr'⟩)|(go_at_call 122;(with_reducible refine(int_at c (pair_any _ _ _ (by assumption)) HE2).mono ?_);rintro e w' ⟨rfl,hr'⟩))
  go_ret2
  exact⟨ret_two (HN.out (.inl h0)).1 (HN.out (.inl h0)).2,by assumption⟩
 ·by_cases c0:c<0
  ·go_enter Tryz.func106,Tryz.ntmps106
   go_wp2_with (first|(go_at_call 120;(with_reducible refine(cutp_any _ b HB _ _ hr).mono ?_);rintro e w' ⟨rfl,hr'⟩)|(go_at_call 121;(with_reducible refine(cut_any _ (by omega) _ _ (by assumption)).mono ?_);rintro e w' ⟨rfl,hr'⟩)|(go_at_call 105;(with_reducible refine(int_at h (count_any _ _ (by omega) _ _ (by assumption)) HE1).mono ?_);rintro e w' ⟨rfl,hr'⟩)|(go_at_call 122;(with_reducible refine(int_at c (pair_any _ _ _ (by assumption)) HE2).mono ?_);rintro e w' ⟨rfl,hr'⟩))
   go_ret2
   exact⟨ret_two (HN.out (.inr c0)).1 (HN.out (.inr c0)).2,by assumption⟩
  ·have HY2:=yH (HY.out (by omega) (by omega))
   clear HY HN
   obtain⟨a,ha⟩:∃a,a=h*100+c:=⟨_,rfl⟩
   rw[←ha] at HY2
   have a0:0≤a:=by omega
   have a1:a≤1000000000099:=by omega
   by_cases hbig:1000000000000<a
   ·have HR:=yH (show rt (h*100+c)=false by rw[←ha];exact rt_no (.inr hbig))
    have h3:0≤h:=by omega
    have c3:0≤c:=by omega
    have HH:=yH (HY2.out.1 (.inl hbig))
    clear ha h0 c0
    go_enter Tryz.func106,Tryz.ntmps106
    go_wp2_with (first|(go_at_call 120;(with_reducible refine(cutp_any _ b HB _ _ hr).mono ?_);rintro e w' ⟨rfl,hr'⟩)|(go_at_call 121;(with_reducible refine(cut_any _ (by omega) _ _ (by assumption)).mono ?_);rintro e w' ⟨rfl,hr'⟩)|(go_at_call 105;(with_reducible refine(int_at h (count_any _ _ (by omega) _ _ (by assumption)) HE1).mono ?_);rintro e w' ⟨rfl,hr'⟩)|(go_at_call 122;(with_reducible refine(int_at c (pair_any _ _ _ (by assumption)) HE2).mono ?_);rintro e w' ⟨rfl,hr'⟩)|(go_at_call 115;(with_reducible refine(bool_at false (right_any _ _) HR).mono ?_);rintro e w' ⟨rfl,rfl⟩))
    go_ret2
    exact⟨ret_two HH.out.1 HH.out.2,by assumption⟩
   ·have HR:=yH (show rt (h*100+c)=true by rw[←ha];exact rt_yes (by omega) (by omega))
    have bb:h*100+c≤1000000000000:=by omega
    rw[ha] at HY2
    clear ha hbig a0 a1
    cases b
    ·have HH:=yH (HY2.out.2 ⟨bb,by simp⟩)
     have h3:0≤h:=by omega
     have c3:0≤c:=by omega
     clear HY2 h0 c0
     go_enter Tryz.func106,Tryz.ntmps106
     go_wp2_with (first|(go_at_call 120;(with_reducible refine(cutp_any _ false HB _ _ hr).mono ?_);rintro e w' ⟨rfl,hr'⟩)|(go_at_call 121;(with_reducible refine(cut_any _ (by omega) _ _ (by assumption)).mono ?_);rintro e w' ⟨rfl,hr'⟩)|(go_at_call 105;(with_reducible refine(int_at h (count_any _ _ (by omega) _ _ (by assumption)) HE1).mono ?_);rintro e w' ⟨rfl,hr'⟩)|(go_at_call 122;(with_reducible refine(int_at c (pair_any _ _ _ (by assumption)) HE2).mono ?_);rintro e w' ⟨rfl,hr'⟩)|(go_at_call 115;(with_reducible refine(bool_at true (right_any _ _) HR).mono ?_);rintro e w' ⟨rfl,rfl⟩))
     go_ret2
     exact⟨ret_two HH.out.1 HH.out.2,by assumption⟩
    ·by_cases hz:h*100+c=0
     ·have HH:=yH (HY2.out.1 (.inr ⟨rfl,hz⟩))
      have hz':((h*100+c:Int)==0)=true:=by simpa using hz
      clear hz
      have h3:0≤h:=by omega
      have c3:0≤c:=by omega
      clear HY2 h0 c0
      go_enter Tryz.func106,Tryz.ntmps106
      go_wp2_with (first|(go_at_call 120;(with_reducible refine(cutp_any _ true HB _ _ hr).mono ?_);rintro e w' ⟨rfl,hr'⟩)|(go_at_call 121;(with_reducible refine(cut_any _ (by omega) _ _ (by assumption)).mono ?_);rintro e w' ⟨rfl,hr'⟩)|(go_at_call 105;(with_reducible refine(int_at h (count_any _ _ (by omega) _ _ (by assumption)) HE1).mono ?_);rintro e w' ⟨rfl,hr'⟩)|(go_at_call 122;(with_reducible refine(int_at c (pair_any _ _ _ (by assumption)) HE2).mono ?_);rintro e w' ⟨rfl,hr'⟩)|(go_at_call 115;(with_reducible refine(bool_at true (right_any _ _) HR).mono ?_);rintro e w' ⟨rfl,rfl⟩))
      go_ret2
      exact⟨ret_two HH.out.1 HH.out.2,by assumption⟩
     ·have HH:=yH (HY2.out.2 ⟨bb,fun x=>hz x.2⟩)
      have hz':((h*100+c:Int)==0)=false:=by simpa using hz
      clear hz
      have h3:0≤h:=by omega
      have c3:0≤c:=by omega
      clear HY2 h0 c0
      go_enter Tryz.func106,Tryz.ntmps106
      go_wp2_with (first|(go_at_call 120;(with_reducible refine(cutp_any _ true HB _ _ hr).mono ?_);rintro e w' ⟨rfl,hr'⟩)|(go_at_call 121;(with_reducible refine(cut_any _ (by omega) _ _ (by assumption)).mono ?_);rintro e w' ⟨rfl,hr'⟩)|(go_at_call 105;(with_reducible refine(int_at h (count_any _ _ (by omega) _ _ (by assumption)) HE1).mono ?_);rintro e w' ⟨rfl,hr'⟩)|(go_at_call 122;(with_reducible refine(int_at c (pair_any _ _ _ (by assumption)) HE2).mono ?_);rintro e w' ⟨rfl,hr'⟩)|(go_at_call 115;(with_reducible refine(bool_at true (right_any _ _) HR).mono ?_);rintro e w' ⟨rfl,rfl⟩))
      go_ret2
      exact⟨ret_two HH.out.1 HH.out.2,by assumption⟩
end Go.Proofs.YtjhjdiaomnpkmaaGreatDoor
