/- The law's play. -/

import Derived.Test.YtjhjdiaomnpkmaaGreatDoorZ13
import Derived.Test.YtjhjdiaomnpkmaaGreatDoorZ24
set_option maxRecDepth 100000
set_option maxHeartbeats 8000000
set_option linter.unusedVariables false
set_option linter.unusedSimpArgs false
namespace Go.Proofs.YtjhjdiaomnpkmaaGreatDoor
open Go.RowKit Go.Lib
abbrev clP15(x:Int×Int):List Value:=[.int .i64 x.1,.int .i64 x.2]
theorem clP_len(x:Int×Int):(clP15 x).length=2:=rfl
theorem clP_one(x:Int×Int):∀u∈clP15 x,u.oneCell'=true:=by
 intro u hu
 simp only[clP15,List.mem_cons,List.not_mem_nil,or_false] at hu
 rcases hu with rfl|rfl<;>rfl
theorem add15_next(a:Addr)(n:Nat):a.add (n+1)=⟨(a.add n).block,(a.add n).off+1,none⟩:=by
 unfold Addr.add
 by_cases h:n=0
 ·subst h;simp
 ·simp[h];omega
theorem PairsIn.rel15{w w':World}{A:Option Addr}{n:Nat}{zs:List (Int×Int)}(h:PairsIn w A n zs)(hr:Rel w w'):PairsIn w' A n zs:=⟨h.1,h.2.1,h.2.2.1,h.2.2.2.rel hr⟩
theorem pairs15_at{w:World}{A:Option Addr}{n:Nat}{zs:List (Int×Int)}(h:PairsIn w A n zs){w':World}(hr:Rel w w')(j:Nat)(hj:j<zs.length):
  ∃(a:Addr)(x y:Int),A=some a∧w'.cell? (a.add (j*2))=some (.int .i64 x)∧w'.cell? ⟨(a.add (j*2)).block,(a.add (j*2)).off+1,none⟩=some (.int .i64 y)∧zs[j]=(x,y)∧i64 x∧i64 y:=by
 obtain⟨_,_,hb,hp⟩:=h
 obtain⟨a,e,hl,c0,c1⟩:=(hp.rel hr) j hj
 have:=hb zs[j] (List.getElem_mem hj)
 rw[add15_next] at c1
 exact⟨a,zs[j].1,zs[j].2,e,c0,c1,rfl,this.1,this.2⟩
theorem pair_info15:(Tryz.prog.info? 34).map (fun i=>(i.zero,i.size,i.bytes))=some (some (.agg #[.int .i64 0,.int .i64 0]),2,16):=by kernel_rfl
theorem pair_ne15:34≠27:=by decide
theorem pair_nc15:34≠24:=by decide
structure PlM (w0 w:World) (gx gz gp:Nat) (f c m o b:Int) (S:ByteArray) (la at_ sw:Int) (L:List Int) (A:Option Addr) (n k:Nat) (v:Value) (l:List (Int×Int)):Prop where
 rel:Rel w0 w
 hx:Bk w gx 24 #[.int .i64 f,.int .i64 c,.int .i64 m,.int .i64 o,.int .i64 b,.string S]
 hz:Bk w gz 27 #[.int .i64 0,.int .i64 0,.slice none 0 0,.int .i64 0]
 hp:Bk w gp 27 #[.int .i64 la,.int .i64 at_,.slice A n k,.int .i64 sw]
 pa:PaAt w (la,at_,L,sw) A n k
 ow:RowOwn 34 clP15 2 w w0.heap.size v l
 ne:∀a,A=some a→some a.block≠v.ownBlock∧a.block≠gz∧a.block≠gp∧a.block<w.heap.size
 nz:gz≠gp
 sz:w0.heap.size≤gz
 sp:w0.heap.size≤gp
theorem alloc15{w0 w:World}(h:Rel w0 w):∃gq W1,w.heap.size=gq∧w.alloc (.cells #[.int .i64 0,.int .i64 0,.slice none 0 0,.int .i64 0] 27)=W1∧Hid (Bk W1 gq 27 #[.int .i64 0,.int .i64 0,.slice none 0 0,.int .i64 0])∧Hid (Rel w W1)∧Hid (w0.heap.size≤gq)∧Hid (gq<W1.heap.size):=
 ⟨_,_,rfl,rfl,yH (Bk.new _ _ _),yH (h.self.alloc _),yH h.size,yH (Bk.new w 27 #[.int .i64 0,.int .i64 0,.slice none 0 0,.int .i64 0]).lt⟩
section
variable {w0 w w':World} {gx gz gp:Nat} {f c m o b:Int} {S:ByteArray} {la at_ sw:Int} {L:List Int} {A:Option Addr} {n k:Nat} {v:Value} {l:List (Int×Int)}
theorem PlM.to(h:PlM w0 w gx gz gp f c m o b S la at_ sw L A n k v l)(hr:Rel w w'):PlM w0 w' gx gz gp f c m o b S la at_ sw L A n k v l:=
 ⟨h.rel.trans hr,h.hx.rel hr,h.hz.rel hr,h.hp.rel hr,h.pa.rel hr,h.ow.rel hr,fun a ha=>⟨(h.ne a ha).1,(h.ne a ha).2.1,(h.ne a ha).2.2.1,Nat.lt_of_lt_of_le (h.ne a ha).2.2.2 hr.size⟩,h.nz,h.sz,h.sp⟩
theorem PlM.cells(h:PlM w0 w gx gz gp f c m o b S la at_ sw L A n k v l):(w.cell? ⟨gx,0,none⟩=some (.int .i64 f)∧w.cell? ⟨gx,1,none⟩=some (.int .i64 c)∧w.cell? ⟨gx,2,none⟩=some (.int .i64 m)∧w.cell? ⟨gx,3,none⟩=some (.int .i64 o)∧w.cell? ⟨gx,4,none⟩=some (.int .i64 b)∧w.cell? ⟨gx,5,none⟩=some (.string S))∧(w.cell? ⟨gp,0,none⟩=some (.int .i64 la)∧w.cell? ⟨gp,1,none⟩=some (.int .i64 at_)∧w.cell? ⟨gp,2,none⟩=some (.slice A n k)∧w.cell? ⟨gp,3,none⟩=some (.int .i64 sw)):=⟨(six_of h.hx).1,(four_of h.hp).1⟩
theorem PlM.store(h:PlM w0 w gx gz gp f c m o b S la at_ sw L A n k v l){la' at' sw':Int}{L':List Int}{A':Option Addr}{n' k':Nat}(hp:PaAt w (la',at',L',sw') A' n' k')(hne:∀a,A'=some a→some a.block≠v.ownBlock∧a.block≠gz∧a.block≠gp∧a.block<w.heap.size):PlM w0 ((((w.setCell ⟨gp,0,none⟩ (.int .i64 la')).setCell ⟨gp,1,none⟩ (.int .i64 at')).setCell ⟨gp,2,none⟩ (.slice A' n' k')).setCell ⟨gp,3,none⟩ (.int .i64 sw')) gx gz gp f c m o b S la' at' sw' L' A' n' k' v l:=by
 have hxp:gx≠gp:=Bk.ne h.hx h.hp (by decide)
 have hop:=own_ne h.ow.row h.hp pair_ne15
 have hg:=put4_grown w gp (.int .i64 la') (.int .i64 at') (.slice A' n' k') (.int .i64 sw')
 refine⟨h.rel.put4 h.sp _ _ _ _,((((h.hx.far (p:=⟨gp,0,none⟩) hxp _).far (p:=⟨gp,1,none⟩) hxp _).far (p:=⟨gp,2,none⟩) hxp _).far (p:=⟨gp,3,none⟩) hxp _),((((h.hz.far (p:=⟨gp,0,none⟩) h.nz _).far (p:=⟨gp,1,none⟩) h.nz _).far (p:=⟨gp,2,none⟩) h.nz _).far (p:=⟨gp,3,none⟩) h.nz _),h.hp.put4 _ _ _ _,⟨hp.1,hp.2.1,hp.2.2.put4 (fun a ha=>(hne a ha).2.2.1) _ _ _ _⟩,own_set (own_set (own_set (own_set h.ow hop _) hop _) hop _) hop _,fun a ha=>⟨(hne a ha).1,(hne a ha).2.1,(hne a ha).2.2.1,Nat.lt_of_lt_of_le (hne a ha).2.2.2 hg.size⟩,h.nz,h.sz,h.sp⟩
theorem PlM.more(h:PlM w0 w gx gz gp f c m o b S la at_ sw L A n k v l){x:Int×Int}{g cap:Nat}{w1:World}(hown:w1.ownsRow w0.heap.size 34 2 (.slice (some ⟨g,0,none⟩) (l.length+1) cap) (l.length+1) (l.flatMap clP15++clP15 x))(hg:w.grownBy w1 v.ownBlock)(hat:v.ownBlock=some g∨g=w.heap.size):PlM w0 w1 gx gz gp f c m o b S la at_ sw L A n k (.slice (some ⟨g,0,none⟩) (l.length+1) cap) (l++[x]):=by
 have hox:=own_ne h.ow.row h.hx pair_nc15
 have hoz:=own_ne h.ow.row h.hz pair_ne15
 have hop:=own_ne h.ow.row h.hp pair_ne15
 refine⟨h.rel.grown hg (fun k hk=>(h.ow.row.lt k hk).1),h.hx.grown hg hox,h.hz.grown hg hoz,h.hp.grown hg hop,⟨h.pa.1,h.pa.2.1,h.pa.2.2.grown15 hg (fun a ha=>(h.ne a ha).1)⟩,RowOwn.more rfl hown,fun a ha=> ?_,h.nz,h.sz,h.sp⟩
 obtain⟨h1,h2,h3,h4⟩:=h.ne a ha
 refine⟨fun e=> ?_,h2,h3,Nat.lt_of_lt_of_le h4 hg.size⟩
 have e:a.block=g:=by injection e
 rcases hat with hat|hat
 ·rw[hat,e] at h1;exact h1 rfl
 ·omega
theorem PlM.nextq(h:PlM w0 w gx gz gp f c m o b S la at_ sw L A n k v l){A2:Option Addr}(hr:Rel w w')(hA:A2=A∨∀a,A2=some a→w.heap.size≤a.block∧a.block<w'.heap.size):∀a,A2=some a→some a.block≠v.ownBlock∧a.block≠gz∧a.block≠gp∧a.block<w'.heap.size:=by
 intro a ha
 have hs:=hr.size
 rcases hA with rfl|hA
 ·obtain⟨h1,h2,h3,h4⟩:=h.ne a ha
  exact⟨h1,h2,h3,by omega⟩
 ·obtain⟨h1,h2⟩:=hA a ha
  have hz:=h.hz.lt
  have hp:=h.hp.lt
  refine⟨fun e=> ?_,by omega,by omega,h2⟩
  have:=(h.ow.row.lt a.block e.symm).2
  omega
theorem PlM.nexts(h:PlM w0 w gx gz gp f c m o b S la at_ sw L A n k v l){A2:Option Addr}{g cap N:Nat}{w1 w2:World}(hA:∀a,A2=some a→some a.block≠v.ownBlock∧a.block≠gz∧a.block≠gp∧a.block<w.heap.size)(hr:Rel w w1)(hg:w1.grownBy w2 v.ownBlock)(hat:v.ownBlock=some g∨g=w1.heap.size):∀a,A2=some a→some a.block≠(Value.slice (some ⟨g,0,none⟩) N cap).ownBlock∧a.block≠gz∧a.block≠gp∧a.block<w2.heap.size:=by
 intro a ha
 obtain⟨h1,h2,h3,h4⟩:=hA a ha
 have hs:=hr.size
 refine⟨fun e=> ?_,h2,h3,Nat.lt_of_lt_of_le h4 (Nat.le_trans hs hg.size)⟩
 have e:a.block=g:=by injection e
 rcases hat with hat|hat
 ·rw[hat,e] at h1;exact h1 rfl
 ·omega
end
theorem play15_any(H3:ConfOk3)(H:PaceOk)(f c m o b:Int)(t:List UInt8)(S:ByteArray)(hS:B t=S)(hf:CfFit (f,c,m,o,b,t))(hck:checkC (f,c,m,o,b,t)=0)(hc9:c≤100000)(zs:List (Int×Int))(AZ:Option Addr)(kz:Nat)(la at_ sw:Int)(L:List Int)(l:List (Int×Int))(hpl:(playP (f,c,m,o,b,t) zs).2=((la,at_,L,sw),l))(w:World)(hr:Rel w w)(hZ:PairsIn w AZ zs.length zs):
  Calls Tryz.prog 18 #[.agg #[.int .i64 f,.int .i64 c,.int .i64 m,.int .i64 o,.int .i64 b,.string S],.slice AZ zs.length kz] w fun e w'=>∃(A:Option Addr)(n k:Nat)(D:Option Addr)(kd:Nat),e= .returned (.tuple #[.agg #[.int .i64 la,.int .i64 at_,.slice A n k,.int .i64 sw],.slice D l.length kd])∧PaAt w' (la,at_,L,sw) A n k∧RowAt clP15 2 w' D l∧l.length≤kd∧kd≤maxLen∧Rel w w':=by
 obtain⟨low,hlow⟩:∃l,max f m=l:=⟨_,rfl⟩
 have hnu:=nums_iff.1 (check_zero.1 hck).1
 have hlc:=low_le (check_zero.1 hck).1
 have hl0:1≤low:=by rw[←hlow];have:1≤f:=hnu.1;omega
 have hlc2:low≤c:=by rw[←hlow];exact hlc
 obtain⟨M,hM⟩:∃q,c-low+1=q:=⟨_,rfl⟩
 have hM1:max M 1=M:=by omega
 have hMb:1≤M∧M≤100000:=by omega
 obtain⟨hMb0,hMb1⟩:=hMb
 have HTar:=yH (fun y:Int=>show tarP (f,c,m,o,b,t) y=low+pk y M by unfold tarP;rw[show lowC (f,c,m,o,b,t)=low from hlow];rw[show max (ceC (f,c,m,o,b,t)-low+1) 1=M from by show max (c-low+1) 1=M;omega])
 have KL:=yH (fun(w:World)(hr:Rel w w)=>clow15 H3 hS hf hlow w hr)
 have KD:=yH (fun(la at_ sw:Int)(L:List Int)(A:Option Addr)(n k:Nat)(tg now:Int)(ht:i64 tg)(hn:i64 now)(la' at' sw':Int)(R':List Int)(g:Bool)(hq:decP (f,c,m,o,b,t) (la,at_,L,sw) tg now=(la',at',R',sw')) (hg:goP (f,c,m,o,b,t) (la,at_,L,sw) tg now=g) (w:World) (hr:Rel w w) (hp:PaAt w (la,at_,L,sw) A n k)=>pdecw15 H hS hf (A:=A) (n:=n) (k:=k) ht hn hq hg w hr hp)
 have HCk:=yH hck
 have HPl:=yH hpl
 have HZ:=yH hZ
 have hzl:zs.length≤9223372036854775807:=hZ.2.1
 have HX0:=yH (((Bk.new w 24 #[.int .i64 f,.int .i64 c,.int .i64 m,.int .i64 o,.int .i64 b,.string S]).alloc (.cells #[.int .i64 0,.int .i64 0,.slice none 0 0,.int .i64 0] 27)).alloc (.cells #[.int .i64 0,.int .i64 0,.slice none 0 0,.int .i64 0] 27))
 have HZ0:=yH ((Bk.new (w.alloc (.cells #[.int .i64 f,.int .i64 c,.int .i64 m,.int .i64 o,.int .i64 b,.string S] 24)) 27 #[.int .i64 0,.int .i64 0,.slice none 0 0,.int .i64 0]).alloc (.cells #[.int .i64 0,.int .i64 0,.slice none 0 0,.int .i64 0] 27))
 have HP0:=yH (Bk.new ((w.alloc (.cells #[.int .i64 f,.int .i64 c,.int .i64 m,.int .i64 o,.int .i64 b,.string S] 24)).alloc (.cells #[.int .i64 0,.int .i64 0,.slice none 0 0,.int .i64 0] 27)) 27 #[.int .i64 0,.int .i64 0,.slice none 0 0,.int .i64 0])
 have HR0:=yH (((hr.alloc (.cells #[.int .i64 f,.int .i64 c,.int .i64 m,.int .i64 o,.int .i64 b,.string S] 24)).alloc (.cells #[.int .i64 0,.int .i64 0,.slice none 0 0,.int .i64 0] 27)).alloc (.cells #[.int .i64 0,.int .i64 0,.slice none 0 0,.int .i64 0] 27))
 obtain⟨i0,hi0,hz0,hz1,hz2⟩:=info_parts pair_info15
 clear H3 H hS hf hck hnu hlc hpl hZ hr hlow
 go_enter Tryz.func18,Tryz.ntmps18
 go_upto_region 2 with (fail)
 have HX:=HX0
 have HZz:=HZ0
 have HP:=HP0
 have HR:=HR0
 rw[World.size_alloc] at HZz
 rw[World.size_alloc,World.size_alloc] at HP
 obtain⟨W,hW⟩:∃W,((w.alloc (.cells #[.int .i64 f,.int .i64 c,.int .i64 m,.int .i64 o,.int .i64 b,.string S] 24)).alloc (.cells #[.int .i64 0,.int .i64 0,.slice none 0 0,.int .i64 0] 27)).alloc (.cells #[.int .i64 0,.int .i64 0,.slice none 0 0,.int .i64 0] 27)=W:=⟨_,rfl⟩
 rw[hW] at HX HZz HP HR
 obtain⟨gp,hgp⟩:∃g,w.heap.size+1+1=g:=⟨_,rfl⟩
 obtain⟨gz,hgz⟩:∃g,w.heap.size+1=g:=⟨_,rfl⟩
 have hzp:gz≠gp:=by omega
 have hsz:w.heap.size≤gz:=by omega
 have hsp:w.heap.size≤gp:=by omega
 rw[hgp] at HP
 rw[hgz] at HZz
 try rw[hW]
 try rw[hgp]
 try rw[hgz]
 obtain⟨gx,hgx⟩:∃g,w.heap.size=g:=⟨_,rfl⟩
 rw[hgx] at HX
 try rw[hgx]
 have HM0:=yH (show PlM w W gx gz gp f c m o b S 0 0 0 [] none 0 0 (.slice none 0 0) [] from⟨HR.out,HX.out,HZz.out,HP.out,pa_no W,RowOwn.nil _ _ _,fun a ha=>absurd ha (by simp),hzp,hsz,hsp⟩)
 clear hW hgp hgz hgx HX0 HZ0 HP0 HR0 HX HZz HP HR hzp hsz hsp
 obtain⟨⟨x0,x1,x2,x3,x4,x5⟩,_⟩:=HM0.out.cells
 go_upto_region 5 with (go_at_call 20;(with_reducible refine(KL.out _ HM0.out.rel.self).mono ?_);rintro e w1 ⟨rfl,h1⟩;have HM1:=yH (HM0.out.to h1.out);clear h1)
 clear x0 x1 x2 x3 x4 x5 HM0
 go_upto_block 0 with (fail)
 go_cut [7] (fun v wx=>∃(A:Option Addr)(n k:Nat)(D:Option Addr)(kd:Nat),v= .slice D l.length kd∧PlM w wx gx gz gp f c m o b S la at_ sw L A n k v l)
 case first=>
  go_wp2_with (fail)
  go_loopw [7,8,10] (fun v nw i wr=>∃(j:Nat)(nv la at_ sw:Int)(L:List Int)(l:List (Int×Int)) (A:Option Addr) (n k:Nat) (D:Option Addr) (kd:Nat),j≤zs.length∧j≤40∧i= .int .i64 (j:Int)∧nw= .int .i64 nv∧v= .slice D l.length kd∧Hid (playN (f,c,m,o,b,t) zs j=(nv,(la,at_,L,sw),l))∧Hid (PInv (f,c,m,o,b,t) j (nv,(la,at_,L,sw),l))∧Hid (PlM w wr gx gz gp f c m o b S la at_ sw L A n k (.slice D l.length kd) l)) (fun _ _ i _=>zs.length-(RowKit.intOf i).toNat)
  case atStart=>exact⟨0,0,0,0,0,[],[],none,0,0,none,0,by omega,by omega,rfl,rfl,rfl,yH rfl,yH (pinv_zero _),HM1⟩
  case round=>
   obtain⟨j,nv,la1,at1,sw1,L1,l1,A1,n1,k1,D1,kd1,hj,hj4,rfl,rfl,rfl,HN,HI,HM⟩:=hrel
   by_cases hlt:j<zs.length
   ·by_cases h40:j<40
    ·obtain⟨a,x,y,rfl,c0,c1,hxy,hx,hy⟩:=pairs15_at HZ.out HM.out.rel j hlt
     have hj0:(0:Int)≤(j:Int):=by omega
     have hji:(j:Int)<(zs.length:Int):=by omega
     have hj40:(j:Int)<40:=by omega
     have n0:0≤nv:=HI.out.now0
     have n1':nv≤8*(j:Int):=HI.out.now1
     have hfew:l1.length≤j:=HI.out.few
     obtain⟨p,hp⟩:∃p,pk x 9=p:=⟨_,rfl⟩
     have hpb:=pk_bd x 9 (by omega)
     rw[hp] at hpb
     obtain⟨hp0,hp1⟩:=hpb
     have HPk:=yH hp
     obtain⟨q,hq⟩:∃q,pk y M=q:=⟨_,rfl⟩
     have hqb:=pk_bd y M (by omega)
     rw[hq] at hqb
     obtain⟨hq0,hq1⟩:=hqb
     have HQk:=yH hq
     obtain⟨nn,hnn⟩:∃q,nv+p=q:=⟨_,rfl⟩
     have hnb:0≤nn∧nn≤400:=by omega
     obtain⟨hnb0,hnb1⟩:=hnb
     obtain⟨tg,htg⟩:∃z,low+q=z:=⟨_,rfl⟩
     have htb:1≤tg∧tg≤100000:=by omega
     obtain⟨htb0,htb1⟩:=htb
     obtain⟨⟨la2,at2,L2,sw2⟩,hd⟩:∃z,decP (f,c,m,o,b,t) (la1,at1,L1,sw1) tg nn=z:=⟨_,rfl⟩
     obtain⟨g,hg⟩:∃z,goP (f,c,m,o,b,t) (la1,at1,L1,sw1) tg nn=z:=⟨_,rfl⟩
     have KDj:=yH (fun(w:World)(hr:Rel w w)(hp:PaAt w (la1,at1,L1,sw1) A1 n1 k1)=>KD.out la1 at1 sw1 L1 A1 n1 k1 tg nn ⟨by omega,by omega⟩ ⟨by omega,by omega⟩ la2 at2 sw2 L2 g hd hg w hr hp)
     have HNx:=yH (show playN (f,c,m,o,b,t) zs (j+1)=(nn,(la2,at2,L2,sw2),if g then l1++[(tg,nn)] else l1) by
      rw[play_next hlt,HN.out,hxy]
      show(nv+pk x 9,decP (f,c,m,o,b,t) (la1,at1,L1,sw1) (tarP (f,c,m,o,b,t) y) (nv+pk x 9),if goP (f,c,m,o,b,t) (la1,at1,L1,sw1) (tarP (f,c,m,o,b,t) y) (nv+pk x 9) then l1++[(tarP (f,c,m,o,b,t) y,nv+pk x 9)] else l1)=_
      rw[HTar.out y,hp,hq,hnn,htg,hd,hg])
     have HIx:=yH (show PInv (f,c,m,o,b,t) (j+1) (nn,(la2,at2,L2,sw2),if g then l1++[(tg,nn)] else l1) by
      have h1:=pinv_step HCk.out (by omega) HI.out zs[j]
      have h2:=play_next (c:=(f,c,m,o,b,t)) hlt
      rw[HN.out] at h2
      rw[←h2,HNx.out] at h1
      exact h1)
     have HLa:=yH (show g=true→la2=tg by
      intro e
      rw[e] at hg
      unfold decP at hd
      rw[if_pos hg] at hd
      exact(congrArg Prod.fst hd).symm)
     have w1:IntKind.i64.wrap (c-low)=c-low:=by rw[IntKind.wrap_i64];omega
     have w2:IntKind.i64.wrap (c-low+1)=M:=by rw[IntKind.wrap_i64];omega
     have w3:IntKind.i64.wrap M=M:=by rw[IntKind.wrap_i64];omega
     have w4:IntKind.i64.wrap (low+q)=tg:=by rw[IntKind.wrap_i64];omega
     have w5:IntKind.i64.wrap tg=tg:=by rw[IntKind.wrap_i64];omega
     clear hxy hp hq hd hg
     go_upto_region 9 with (go_at_call 14;(with_reducible refine(pk15_as x 9 p HPk hx (by omega) (by omega) _).mono ?_);rintro e w' ⟨rfl,rfl⟩)
     go_cut [11,12] (fun qv is wx=>∃(A2:Option Addr)(n2 k2 gq:Nat),qv= .pointer (some ⟨gq,0,none⟩)∧is= .bool g∧Bk wx gq 27 #[.int .i64 la2,.int .i64 at2,.slice A2 n2 k2,.int .i64 sw2]∧PaAt wx (la2,at2,L2,sw2) A2 n2 k2∧PlM w wx gx gz gp f c m o b S la1 at1 sw1 L1 A1 n1 k1 (.slice D1 l1.length kd1) l1∧(∀a,A2=some a→some a.block≠(Value.slice D1 l1.length kd1).ownBlock∧a.block≠gz∧a.block≠gp∧a.block<wx.heap.size))
     case first=>
      refine wp_region_held_drew (S:=(fun w'=>Rel wr w')) (by kernel_rfl) HM.out.rel.self.drew (fun hH=> ?_)
      refine yL [0,1,2,3,4,5,6,7,8,9,10,11,12,13,16] (by kernel_rfl) hH (fun _ _ _ _ _=>id) ?_
      iterate 15
       refine yS rfl rfl (by rfl) ?_ ?_ ?_
       rotate_left
       ·rintro w' hr';obtain⟨⟨x0,x1,x2,x3,x4,x5⟩,p0,p1,p2,p3⟩:=(HM.out.to hr').cells;have c1':=(hr'.2.cell (p:=⟨(a.add (j*2)).block,(a.add (j*2)).off+1,none⟩) (blk_of_cell c1)).trans c1;go_simp;try with_reducible rfl
       try simp only[Act.put,yA,yB,yC]
      refine yZ ?_
      refine held_two (j:=14) (k:=21) (by kernel_rfl) rfl rfl (fun K hK=> ?_) (fun K hK=> ?_)
      ·skip
       try simp only[yD,yE,yF]
       rw[if_pos (by rfl)]
       go_simp
       go_at_call 14;(with_reducible refine(pk15_as y M q HQk hy (by omega) (by omega) _).mono ?_);rintro e w' ⟨rfl,rfl⟩
       refine hK.out _ _ hH (fun hH=> ?_)
       clear hK K
       try simp only[Act.put,yA,yB,yC]
       refine yW 15 49 rfl rfl (by kernel_rfl) (by rfl) hH ?_ (fun _ _ _=>id) ?_ ?_
       rotate_left
       ·rintro w' hr';obtain⟨⟨x0,x1,x2,x3,x4,x5⟩,p0,p1,p2,p3⟩:=(HM.out.to hr').cells;have c1':=(hr'.2.cell (p:=⟨(a.add (j*2)).block,(a.add (j*2)).off+1,none⟩) (blk_of_cell c1)).trans c1;go_simp;try with_reducible rfl
       try simp only[Act.put,yA,yB,yC]
       refine held_two (j:=17) (k:=21) (by kernel_rfl) rfl rfl (fun K hK=> ?_) (fun K hK=> ?_)
       ·skip
        try simp only[yD,yE,yF]
        rw[if_pos (by rfl)]
        go_simp
        have HH:=yH hH
        have HHS:=yH HH.out.size
        go_at_call 15;(with_reducible refine(KDj.out _ HH.out.self (HM.out.pa.rel HH.out)).mono ?_);rintro e w2 ⟨A2,n2,k2,rfl,P2,r2,hA2⟩
        have RD:=yH (HH.out.trans r2.out)
        have R2x:=yH RD.out.self
        have hA2':=hA2
        try have BQ:=yH (BQ.out.rel r2.out)
        refine hK.out _ _ RD.out (fun hH=> ?_)
        clear hK K
        try simp only[Act.put,yA,yB,yC]
        refine yL [18,19,20] (by kernel_rfl) hH (fun _ _ _ _ _=>id) ?_
        iterate 3
            refine yS rfl rfl (by rfl) ?_ ?_ ?_
            rotate_left
            ·rintro w' hr';obtain⟨⟨x0,x1,x2,x3,x4,x5⟩,p0,p1,p2,p3⟩:=(HM.out.to hr').cells;have c1':=(hr'.2.cell (p:=⟨(a.add (j*2)).block,(a.add (j*2)).off+1,none⟩) (blk_of_cell c1)).trans c1;go_simp;try with_reducible rfl
            try simp only[Act.put,yA,yB,yC]
        refine yZ ?_
        refine held_one (j:=21) (by kernel_rfl) rfl (fun K hK=> ?_)
        try simp only[yD,yE,yF]
        rw[if_pos (by rfl)]
        go_simp
        have H1:=yH hH
        obtain⟨gq,W1,hgq,hW1,BQ,RQ,GQ,GLT⟩:=alloc15 H1.out
        first|rw[hW1]|rw[show(wr.alloc (.cells #[.int .i64 0,.int .i64 0,.slice none 0 0,.int .i64 0] 27)).drew=W1 from hW1]
        first|rw[show wr.heap.size=gq from hgq]|rw[hgq]
        have HGQ:=yH hgq
        clear hgq hW1
        try have P2:=yH (P2.out.rel RQ.out)
        try have R2x:=yH (R2x.out.trans RQ.out)
        refine hK.out _ _ (H1.out.trans RQ.out) (fun hH=> ?_)
        clear hK K
        try simp only[Act.put,yA,yB,yC]
        refine held_one (j:=22) (by kernel_rfl) rfl (fun K hK=> ?_)
        try simp only[yD,yE,yF]
        rw[if_pos (by rfl)]
        have H2:=yH hH
        obtain⟨⟨z0,z1,z2,z3⟩,⟨zf0,zf1,zf2,zf3⟩⟩:=four_of BQ.out
        go_simp
        have NEQ:∀a,A2=some a→a.block≠gq:=by
            intro a' ha
            have g1:=GQ.out
            have g2:=GLT.out
            have g3:=HGQ.out
            rcases hA2'.out with e|h
            ·have h0:=(HM.out.ne a' (by rw[←e];exact ha)).2.2.2
             omega
            ·have h0:=h a' ha
             omega
        have PX:=yH (P2.out.2.2.put4 NEQ (.int .i64 la2) (.int .i64 at2) (.slice A2 n2 k2) (.int .i64 sw2))
        have BX:=yH (BQ.out.put4 (.int .i64 la2) (.int .i64 at2) (.slice A2 n2 k2) (.int .i64 sw2))
        have RX:=yH (H2.out.put4 GQ.out (.int .i64 la2) (.int .i64 at2) (.slice A2 n2 k2) (.int .i64 sw2))
        have AX:=yH (HM.out.nextq (A2:=A2) RX.out (by
            rcases hA2'.out with e|h
            ·exact .inl e
            ·exact .inr (fun a' ha=>⟨Nat.le_trans HHS.out (h a' ha).1,Nat.lt_of_lt_of_le (h a' ha).2 (Nat.le_trans R2x.out.size (put4_grown _ _ _ _ _ _).size)⟩)))
        refine hK.out _ _ RX.out (fun hH=> ?_)
        clear hK K
        try simp only[Act.put,yA,yB,yC]
        refine yW 23 12 rfl rfl (by kernel_rfl) (by rfl) hH ?_ (fun _ _ _=>id) ?_ ?_
        rotate_left
        ·rintro w' hr';obtain⟨⟨x0,x1,x2,x3,x4,x5⟩,p0,p1,p2,p3⟩:=(HM.out.to hr').cells;have c1':=(hr'.2.cell (p:=⟨(a.add (j*2)).block,(a.add (j*2)).off+1,none⟩) (blk_of_cell c1)).trans c1;go_simp;try with_reducible rfl
        try simp only[Act.put,yA,yB,yC]
        refine wpAnyH_done (by kernel_rfl) ?_ _
        go_wp2_with (fail)
        go_meet
        exact⟨A2,n2,k2,gq,rfl,rfl,BX.out,⟨P2.out.1,P2.out.2.1,PX.out⟩,HM.out.to RX.out,AX.out⟩
       ·skip
        try simp only[yD,yE,yF]
        rw[if_pos (by rfl)]
        go_simp
        have H1:=yH hH
        obtain⟨gq,W1,hgq,hW1,BQ,RQ,GQ,GLT⟩:=alloc15 H1.out
        first|rw[hW1]|rw[show(wr.alloc (.cells #[.int .i64 0,.int .i64 0,.slice none 0 0,.int .i64 0] 27)).drew=W1 from hW1]
        first|rw[show wr.heap.size=gq from hgq]|rw[hgq]
        have HGQ:=yH hgq
        clear hgq hW1
        try have P2:=yH (P2.out.rel RQ.out)
        try have R2x:=yH (R2x.out.trans RQ.out)
        refine hK.out _ _ (H1.out.trans RQ.out) (fun hH=> ?_)
        clear hK K
        try simp only[Act.put,yA,yB,yC]
        refine held_one (j:=17) (by kernel_rfl) rfl (fun K hK=> ?_)
        try simp only[yD,yE,yF]
        rw[if_pos (by rfl)]
        go_simp
        have HH:=yH hH
        have HHS:=yH HH.out.size
        go_at_call 15;(with_reducible refine(KDj.out _ HH.out.self (HM.out.pa.rel HH.out)).mono ?_);rintro e w2 ⟨A2,n2,k2,rfl,P2,r2,hA2⟩
        have RD:=yH (HH.out.trans r2.out)
        have R2x:=yH RD.out.self
        have hA2':=hA2
        try have BQ:=yH (BQ.out.rel r2.out)
        refine hK.out _ _ RD.out (fun hH=> ?_)
        clear hK K
        try simp only[Act.put,yA,yB,yC]
        refine yL [18,19,20] (by kernel_rfl) hH (fun _ _ _ _ _=>id) ?_
        iterate 3
            refine yS rfl rfl (by rfl) ?_ ?_ ?_
            rotate_left
            ·rintro w' hr';obtain⟨⟨x0,x1,x2,x3,x4,x5⟩,p0,p1,p2,p3⟩:=(HM.out.to hr').cells;have c1':=(hr'.2.cell (p:=⟨(a.add (j*2)).block,(a.add (j*2)).off+1,none⟩) (blk_of_cell c1)).trans c1;go_simp;try with_reducible rfl
            try simp only[Act.put,yA,yB,yC]
        refine yZ ?_
        refine held_one (j:=22) (by kernel_rfl) rfl (fun K hK=> ?_)
        try simp only[yD,yE,yF]
        rw[if_pos (by rfl)]
        have H2:=yH hH
        obtain⟨⟨z0,z1,z2,z3⟩,⟨zf0,zf1,zf2,zf3⟩⟩:=four_of BQ.out
        go_simp
        have NEQ:∀a,A2=some a→a.block≠gq:=by
            intro a' ha
            have g1:=GQ.out
            have g2:=GLT.out
            have g3:=HGQ.out
            rcases hA2'.out with e|h
            ·have h0:=(HM.out.ne a' (by rw[←e];exact ha)).2.2.2
             omega
            ·have h0:=h a' ha
             omega
        have PX:=yH (P2.out.2.2.put4 NEQ (.int .i64 la2) (.int .i64 at2) (.slice A2 n2 k2) (.int .i64 sw2))
        have BX:=yH (BQ.out.put4 (.int .i64 la2) (.int .i64 at2) (.slice A2 n2 k2) (.int .i64 sw2))
        have RX:=yH (H2.out.put4 GQ.out (.int .i64 la2) (.int .i64 at2) (.slice A2 n2 k2) (.int .i64 sw2))
        have AX:=yH (HM.out.nextq (A2:=A2) RX.out (by
            rcases hA2'.out with e|h
            ·exact .inl e
            ·exact .inr (fun a' ha=>⟨Nat.le_trans HHS.out (h a' ha).1,Nat.lt_of_lt_of_le (h a' ha).2 (Nat.le_trans R2x.out.size (put4_grown _ _ _ _ _ _).size)⟩)))
        refine hK.out _ _ RX.out (fun hH=> ?_)
        clear hK K
        try simp only[Act.put,yA,yB,yC]
        refine yW 23 12 rfl rfl (by kernel_rfl) (by rfl) hH ?_ (fun _ _ _=>id) ?_ ?_
        rotate_left
        ·rintro w' hr';obtain⟨⟨x0,x1,x2,x3,x4,x5⟩,p0,p1,p2,p3⟩:=(HM.out.to hr').cells;have c1':=(hr'.2.cell (p:=⟨(a.add (j*2)).block,(a.add (j*2)).off+1,none⟩) (blk_of_cell c1)).trans c1;go_simp;try with_reducible rfl
        try simp only[Act.put,yA,yB,yC]
        refine wpAnyH_done (by kernel_rfl) ?_ _
        go_wp2_with (fail)
        go_meet
        exact⟨A2,n2,k2,gq,rfl,rfl,BX.out,⟨P2.out.1,P2.out.2.1,PX.out⟩,HM.out.to RX.out,AX.out⟩
      ·skip
       try simp only[yD,yE,yF]
       rw[if_pos (by rfl)]
       go_simp
       have H1:=yH hH
       obtain⟨gq,W1,hgq,hW1,BQ,RQ,GQ,GLT⟩:=alloc15 H1.out
       first|rw[hW1]|rw[show(wr.alloc (.cells #[.int .i64 0,.int .i64 0,.slice none 0 0,.int .i64 0] 27)).drew=W1 from hW1]
       first|rw[show wr.heap.size=gq from hgq]|rw[hgq]
       have HGQ:=yH hgq
       clear hgq hW1
       try have P2:=yH (P2.out.rel RQ.out)
       try have R2x:=yH (R2x.out.trans RQ.out)
       refine hK.out _ _ (H1.out.trans RQ.out) (fun hH=> ?_)
       clear hK K
       try simp only[Act.put,yA,yB,yC]
       refine held_one (j:=14) (by kernel_rfl) rfl (fun K hK=> ?_)
       try simp only[yD,yE,yF]
       rw[if_pos (by rfl)]
       go_simp
       go_at_call 14;(with_reducible refine(pk15_as y M q HQk hy (by omega) (by omega) _).mono ?_);rintro e w' ⟨rfl,rfl⟩
       refine hK.out _ _ hH (fun hH=> ?_)
       clear hK K
       try simp only[Act.put,yA,yB,yC]
       refine yW 15 49 rfl rfl (by kernel_rfl) (by rfl) hH ?_ (fun _ _ _=>id) ?_ ?_
       rotate_left
       ·rintro w' hr';obtain⟨⟨x0,x1,x2,x3,x4,x5⟩,p0,p1,p2,p3⟩:=(HM.out.to hr').cells;have c1':=(hr'.2.cell (p:=⟨(a.add (j*2)).block,(a.add (j*2)).off+1,none⟩) (blk_of_cell c1)).trans c1;go_simp;try with_reducible rfl
       try simp only[Act.put,yA,yB,yC]
       refine held_one (j:=17) (by kernel_rfl) rfl (fun K hK=> ?_)
       try simp only[yD,yE,yF]
       rw[if_pos (by rfl)]
       go_simp
       have HH:=yH hH
       have HHS:=yH HH.out.size
       go_at_call 15;(with_reducible refine(KDj.out _ HH.out.self (HM.out.pa.rel HH.out)).mono ?_);rintro e w2 ⟨A2,n2,k2,rfl,P2,r2,hA2⟩
       have RD:=yH (HH.out.trans r2.out)
       have R2x:=yH RD.out.self
       have hA2':=hA2
       try have BQ:=yH (BQ.out.rel r2.out)
       refine hK.out _ _ RD.out (fun hH=> ?_)
       clear hK K
       try simp only[Act.put,yA,yB,yC]
       refine yL [18,19,20] (by kernel_rfl) hH (fun _ _ _ _ _=>id) ?_
       iterate 3
        refine yS rfl rfl (by rfl) ?_ ?_ ?_
        rotate_left
        ·rintro w' hr';obtain⟨⟨x0,x1,x2,x3,x4,x5⟩,p0,p1,p2,p3⟩:=(HM.out.to hr').cells;have c1':=(hr'.2.cell (p:=⟨(a.add (j*2)).block,(a.add (j*2)).off+1,none⟩) (blk_of_cell c1)).trans c1;go_simp;try with_reducible rfl
        try simp only[Act.put,yA,yB,yC]
       refine yZ ?_
       refine held_one (j:=22) (by kernel_rfl) rfl (fun K hK=> ?_)
       try simp only[yD,yE,yF]
       rw[if_pos (by rfl)]
       have H2:=yH hH
       obtain⟨⟨z0,z1,z2,z3⟩,⟨zf0,zf1,zf2,zf3⟩⟩:=four_of BQ.out
       go_simp
       have NEQ:∀a,A2=some a→a.block≠gq:=by
        intro a' ha
        have g1:=GQ.out
        have g2:=GLT.out
        have g3:=HGQ.out
        rcases hA2'.out with e|h
        ·have h0:=(HM.out.ne a' (by rw[←e];exact ha)).2.2.2
         omega
        ·have h0:=h a' ha
         omega
       have PX:=yH (P2.out.2.2.put4 NEQ (.int .i64 la2) (.int .i64 at2) (.slice A2 n2 k2) (.int .i64 sw2))
       have BX:=yH (BQ.out.put4 (.int .i64 la2) (.int .i64 at2) (.slice A2 n2 k2) (.int .i64 sw2))
       have RX:=yH (H2.out.put4 GQ.out (.int .i64 la2) (.int .i64 at2) (.slice A2 n2 k2) (.int .i64 sw2))
       have AX:=yH (HM.out.nextq (A2:=A2) RX.out (by
        rcases hA2'.out with e|h
        ·exact .inl e
        ·exact .inr (fun a' ha=>⟨Nat.le_trans HHS.out (h a' ha).1,Nat.lt_of_lt_of_le (h a' ha).2 (Nat.le_trans R2x.out.size (put4_grown _ _ _ _ _ _).size)⟩)))
       refine hK.out _ _ RX.out (fun hH=> ?_)
       clear hK K
       try simp only[Act.put,yA,yB,yC]
       refine yW 23 12 rfl rfl (by kernel_rfl) (by rfl) hH ?_ (fun _ _ _=>id) ?_ ?_
       rotate_left
       ·rintro w' hr';obtain⟨⟨x0,x1,x2,x3,x4,x5⟩,p0,p1,p2,p3⟩:=(HM.out.to hr').cells;have c1':=(hr'.2.cell (p:=⟨(a.add (j*2)).block,(a.add (j*2)).off+1,none⟩) (blk_of_cell c1)).trans c1;go_simp;try with_reducible rfl
       try simp only[Act.put,yA,yB,yC]
       refine wpAnyH_done (by kernel_rfl) ?_ _
       go_wp2_with (fail)
       go_meet
       exact⟨A2,n2,k2,gq,rfl,rfl,BX.out,⟨P2.out.1,P2.out.2.1,PX.out⟩,HM.out.to RX.out,AX.out⟩
     obtain⟨A2,n2,k2,gq,rfl,rfl,hBX,hPX,hMX,hAX⟩:=hcut
     have BX:=yH hBX
     have PX:=yH hPX
     have MX:=yH hMX
     have AX:=yH hAX
     have GQX:=yH (show gp≠gq→True from fun _=>trivial)
     clear hBX hPX hMX hAX c0 c1 HM
     obtain⟨⟨y0,y1,y2,y3⟩,_⟩:=four_of BX.out
     obtain⟨⟨p0,p1,p2,p3⟩,⟨pf0,pf1,pf2,pf3⟩⟩:=four_of MX.out.hp
     cases g with
     |true=>
      obtain rfl:la2=tg:=HLa.out rfl
      have HL7:=yH (show(l1++[(la2,nn)]).length=l1.length+1 by simp)
      have hws:=MX.out.rel.size
      go_upto_region 12 with (at_builtin;(refine wpList_append_lies _ rfl _ _ 36 rfl w.heap.size 34 i0 (.agg #[.int .i64 0,.int .i64 0]) 2 16 Tryz.underlying36 hi0 hz0 hz1 hz2 rfl (by decide) _ l1.length (l1.flatMap clP15) rfl (MX.out.ow.row.alloc _) ⟨wc.heap.size,0,none⟩ 1 1 (clP15 (la2,nn)) rfl rfl (World.news_of_block (Bk.new wc 34 #[.int .i64 la2,.int .i64 nn])) (clP_one _) (by decide) (by unfold maxLen;omega) (by omega) (by simp;omega) _ rfl ?_);intro g3 cap w3 hown hgrow hat hlt3)
      have MA:=yH (MX.out.to (MX.out.rel.self.alloc (.cells #[.int .i64 la2,.int .i64 nn] 34)))
      have M3:=yH (MA.out.more (x:=(la2,nn)) hown hgrow hat)
      have AA:=yH (MX.out.nexts (N:=l1.length+1) (cap:=cap) AX.out (MX.out.rel.self.alloc (.cells #[.int .i64 la2,.int .i64 nn] 34)) hgrow hat)
      have P3:=yH (((PX.out.rel (MX.out.rel.self.alloc (.cells #[.int .i64 la2,.int .i64 nn] 34))).2.2).grown15 hgrow (fun a ha=>(AX.out a ha).1))
      have B3:=yH (((BX.out.alloc (.cells #[.int .i64 la2,.int .i64 nn] 34))).grown hgrow (own_ne MA.out.ow.row (BX.out.alloc (.cells #[.int .i64 la2,.int .i64 nn] 34)) pair_ne15))
      clear p0 p1 p2 p3 pf0 pf1 pf2 pf3 y0 y1 y2 y3 hown hgrow hat hlt3
      obtain⟨⟨y0,y1,y2,y3⟩,_⟩:=four_of B3.out
      obtain⟨⟨p0,p1,p2,p3⟩,⟨pf0,pf1,pf2,pf3⟩⟩:=four_of M3.out.hp
      go_wp2_with (fail)
      have M4:=yH (M3.out.store (⟨PX.out.1,PX.out.2.1,P3.out⟩:PaAt w3 (la2,at2,L2,sw2) A2 n2 k2) AA.out)
      go_roundw
      case rel=>exact⟨j+1,nn,la2,at2,sw2,L2,l1++[(la2,nn)],A2,n2,k2,some ⟨g3,0,none⟩,cap,by omega,by omega,by go_num,rfl,by rw[HL7.out],HNx,HIx,by rw[HL7.out];exact M4⟩
      case measure=>simp[RowKit.intOf];omega
     |false=>
      go_wp2_with (fail)
      have M4:=yH (MX.out.store PX.out AX.out)
      go_roundw
      case rel=>exact⟨j+1,nn,la2,at2,sw2,L2,l1,A2,n2,k2,D1,kd1,by omega,by omega,by go_num,rfl,rfl,HNx,HIx,M4⟩
      case measure=>simp[RowKit.intOf];omega
    ·obtain rfl:j=40:=by omega
     have hpl:=(show(playP (f,c,m,o,b,t) zs).2=((la1,at1,L1,sw1),l1) by rw[play_min,show min zs.length 40=40 by omega,HN.out]).symm.trans HPl.out
     simp only[Prod.mk.injEq] at hpl
     obtain⟨⟨rfl,rfl,rfl,rfl⟩,rfl⟩:=hpl
     go_wp2_with (fail)
     go_meet
     exact⟨A1,n1,k1,D1,kd1,rfl,HM.out⟩
   ·obtain rfl:j=zs.length:=by omega
    have hpl:=(show(playP (f,c,m,o,b,t) zs).2=((la1,at1,L1,sw1),l1) by rw[play_min,show min zs.length 40=zs.length by omega,HN.out]).symm.trans HPl.out
    simp only[Prod.mk.injEq] at hpl
    obtain⟨⟨rfl,rfl,rfl,rfl⟩,rfl⟩:=hpl
    go_wp2_with (fail)
    all_goals
     go_meet
     exact⟨A1,n1,k1,D1,kd1,rfl,HM.out⟩
 obtain⟨A,n,k,D,kd,rfl,hMf⟩:=hcut
 have MF:=yH hMf
 clear hMf
 obtain⟨⟨p0,p1,p2,p3⟩,_⟩:=four_of MF.out.hp
 obtain⟨⟨z0,z1,z2,z3⟩,⟨zf0,zf1,zf2,zf3⟩⟩:=four_of MF.out.hz
 go_wp2_with (fail)
 have hzo:=own_ne MF.out.ow.row MF.out.hz pair_ne15
 have hO:=RowOwn.at (cl:=clP15) (k:=2) clP_len (own_set (own_set (own_set (own_set MF.out.ow (p:=⟨gz,0,none⟩) hzo (.int .i64 la)) (p:=⟨gz,1,none⟩) hzo (.int .i64 at_)) (p:=⟨gz,2,none⟩) hzo (.slice A n k)) (p:=⟨gz,3,none⟩) hzo (.int .i64 sw):RowOwn 34 clP15 2 _ w.heap.size (.slice D l.length kd) l) rfl
 have hP:=MF.out.pa.2.2.put4 (g:=gz) (fun a ha=>(MF.out.ne a ha).2.1) (.int .i64 la) (.int .i64 at_) (.slice A n k) (.int .i64 sw)
 have hRR:=MF.out.rel.put4 MF.out.sz (.int .i64 la) (.int .i64 at_) (.slice A n k) (.int .i64 sw)
 obtain⟨⟨y0,y1,y2,y3⟩,_⟩:=four_of (MF.out.hz.put4 (.int .i64 la) (.int .i64 at_) (.slice A n k) (.int .i64 sw))
 have hsl:=own_slice MF.out.ow.row
 have hle:=own_le15 MF.out.ow.row
 obtain⟨_,_,hse,hkm⟩:=hsl
 injection hse with _ _ hse
 subst hse
 refine bodyPost_ret (v:= .tuple #[.agg #[.int .i64 la,.int .i64 at_,.slice A n k,.int .i64 sw],.slice D l.length kd]) (by simp[results,Tryz.results18,go_sem,y0,y1,y2,y3]) rfl ⟨A,n,k,D,kd,rfl,⟨MF.out.pa.1,MF.out.pa.2.1,hP⟩,hO,hle,hkm,hRR⟩
end Go.Proofs.YtjhjdiaomnpkmaaGreatDoor
