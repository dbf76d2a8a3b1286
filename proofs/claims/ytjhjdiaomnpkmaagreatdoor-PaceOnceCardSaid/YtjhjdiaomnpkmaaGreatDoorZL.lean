/- What all texts of this claim import. -/
import Derived.Lib.ItoaMem
import Derived.Lib.Bytealg
import GoSem.Op.String
import Derived.Lib.CutLaws
import Derived.Lib.IndexBytes
import Derived.Test.YtjhjdiaomnpkmaaGreatDoorProg
import Derived.WalkKit
import Derived.WalkSpells
import Derived.WalkLawsBesides
import Derived.BigQuiet
import Derived.Deep.QuietTactic
import Derived.Lib.Hide
import Derived.Lib.SmallJoins
import Derived.Below
import Derived.Laws.IdiomStrings
import Derived.Maps.AppendAt
import Derived.Deep.AppendLies
import Derived.OwnWalk
import Derived.Laws.Rows
import Derived.Deep.RegionLaw
import Derived.Deep.RegionHeld3
import Derived.StillTailTactics
import Derived.Deep.DeepCutAuto
import Derived.Deep.Cut
import Derived.IntWalk
import Derived.Deep.RegionHeld
import Derived.Laws.RangeAny
import Derived.Shelf.Strings.Builder1
import Derived.Shelf.Small.Wraps
import Derived.Shelf.Strings.BuilderF
import Derived.Shelf.Strings.BuilderK
import Derived.Shelf.Strconv.Itoa0
import Derived.Shelf.Strconv.Itoa1
import Derived.Shelf.LaysM
import Derived.Shelf.Strconv.Itoa2
import Derived.Shelf.Strconv.Itoa3
import Derived.Shelf.Strconv.Clone
import Derived.Shelf.Strings.Search1
import Derived.Shelf.Strings.Search2
import Derived.Shelf.Strings.Cut
import Derived.Shelf.Strings.Shaped
import Derived.Shelf.Strings.Prefix
import Derived.OrdersHeld
import Derived.RegionTactic
import Derived.Maps.OwnIn
import Derived.Deep.CutBlock
import Derived.Laws.OwnMore
import Derived.Lib.OthersKept
import Derived.ArgAppend
import Derived.Defers
import Derived.Recover
import Derived.OwnWalkIn
import Derived.TacticsInMore
import Derived.RegionIn
import Derived.RangeFuncCalls
import Derived.LoopNIn
import Derived.LoopIn
import Derived.RangeFuncBound
import Derived.RangeFuncLeaves
import Derived.RangeFuncNested
import Derived.Lib.SliceRun
namespace Go.Proofs.YtjhjdiaomnpkmaaGreatDoor
open Go
theorem yW {P:Program} {ops:Array Oper} {Q:Exit→Act→World→Prop} {md:Region.Mode} {S:World→Prop} (i d:Nat) {oi:Oper} {fuel:Nat} {listed:Array Bool} {a:Act} {w:World} (hi:ops[i]?=some oi) (hd:oi.dst=some d)
  (hc:(Region.noSelect ops&&(Region.free md ops listed i&&(Region.ready md ops listed).contains i))=true) (hw:Region.wanted oi (yielded ops a.tmps)=true) (hS:S w) (v:Value)
  (hQ:∀c a w,Q (.panic c) (a.put (some d) v) w→Q (.panic c) a w) (hy:∀w,S w→(execOp a.eval oi).run P w= .ok (.value v) w)
  (h:wpAnyH P md ops Q S fuel (listed.setIfInBounds i true) (a.put (some d) v) w):wpAnyH P md ops Q S (fuel+1) listed a w:=by
 rw[Bool.and_eq_true,Bool.and_eq_true] at hc
 rw[←hd] at h hQ
 exact wpAnyH_take hi hc.1 hc.2.1 hc.2.2 hQ (.inl ⟨hw,hy⟩) hS h
theorem yU {P:Program} {ops:Array Oper} {Q:Exit→Act→World→Prop} {md:Region.Mode} {S:World→Prop} (i d:Nat) {oi:Oper} {fuel:Nat} {listed:Array Bool} {a:Act} {w:World} (hi:ops[i]?=some oi) (hd:oi.dst=some d)
  (hc:(Region.noSelect ops&&(Region.free md ops listed i&&(Region.ready md ops listed).contains i))=true) (hw:Region.wanted oi (yielded ops a.tmps)=false) (hS:S w)
  (hQ:∀c a w,Q (.panic c) (a.put (some d) undef) w→Q (.panic c) a w)
  (h:wpAnyH P md ops Q S fuel (listed.setIfInBounds i true) (a.put (some d) undef) w):wpAnyH P md ops Q S (fuel+1) listed a w:=by
 rw[Bool.and_eq_true,Bool.and_eq_true] at hc
 rw[←hd] at h hQ
 exact wpAnyH_take hi hc.1 hc.2.1 hc.2.2 hQ (.inr ⟨hw,rfl⟩) hS h
def YL (P:Program) (ops:Array Oper) (S:World→Prop) (K:Array Bool→Act→Prop):List Nat→Array Bool→Act→Prop
 |[],li,a=>K li a
 |i::r,li,a=>∃(oi:Oper) (d:Tmp) (v:Value),ops[i]?=some oi∧oi.dst=some d∧YieldsIf P ops S oi v a∧YL P ops S K r (li.setIfInBounds i true) (a.put (some d) v)
def yK (md:Region.Mode) (ops:Array Oper):List Nat→Array Bool→Bool
 |[],_=>true
 |i::r,li=>Region.free md ops li i&&(Region.ready md ops li).contains i&&yK md ops r (li.setIfInBounds i true)
theorem yL {P:Program} {ops:Array Oper} {Q:Exit→Act→World→Prop} {md:Region.Mode} {S:World→Prop} (l:List Nat) {F:Nat} {li:Array Bool} {a:Act} {w:World}
  (hc:(Region.noSelect ops&&(decide (l.length≤F)&&yK md ops l li))=true) (hS:S w) (hQ:∀c a d v w,Q (.panic c) (a.put (some d) v) w→Q (.panic c) a w)
  (h:YL P ops S (fun li a=>wpAnyH P md ops Q S (F-l.length) li a w) l li a):wpAnyH P md ops Q S F li a w:=by
 induction l generalizing F li a with
 |nil=>exact h
 |cons i r ih=>
  rw[Bool.and_eq_true,Bool.and_eq_true,decide_eq_true_eq] at hc
  obtain⟨hs,hl,hk⟩:=hc
  unfold yK at hk
  rw[Bool.and_eq_true,Bool.and_eq_true] at hk
  obtain⟨oi,d,v,hi,hd,hy,hr⟩:=h
  obtain⟨G,rfl⟩:∃G,F=G+1:=⟨F-1,by have:=hl;simp only[List.length_cons] at this;omega⟩
  simp only[List.length_cons] at hl hr
  rw[←hd] at hr
  refine wpAnyH_take hi hs hk.1.1 hk.1.2 (fun c a w=>by rw[hd];exact hQ c a _ _ w) hy hS (ih ?_ ?_)
  ·rw[Bool.and_eq_true,Bool.and_eq_true,decide_eq_true_eq]
   exact⟨hs,by omega,hk.2⟩
  ·rw[Nat.add_sub_add_right] at hr;exact hr
theorem yS {P:Program} {ops:Array Oper} {S:World→Prop} {K:Array Bool→Act→Prop} {i d:Nat} {r:List Nat} {li:Array Bool} {a:Act} {oi:Oper} (hi:ops[i]?=some oi) (hd:oi.dst=some d)
  (hw:Region.wanted oi (yielded ops a.tmps)=true) (v:Value) (hy:∀w,S w→(execOp a.eval oi).run P w= .ok (.value v) w) (h:YL P ops S K r (li.setIfInBounds i true) (a.put (some d) v)):YL P ops S K (i::r) li a:=⟨oi,d,v,hi,hd,.inl ⟨hw,hy⟩,h⟩
theorem yV {P:Program} {ops:Array Oper} {S:World→Prop} {K:Array Bool→Act→Prop} {i d:Nat} {r:List Nat} {li:Array Bool} {a:Act} {oi:Oper} (hi:ops[i]?=some oi) (hd:oi.dst=some d)
  (hw:Region.wanted oi (yielded ops a.tmps)=false) (h:YL P ops S K r (li.setIfInBounds i true) (a.put (some d) undef)):YL P ops S K (i::r) li a:=⟨oi,d,undef,hi,hd,.inr ⟨hw,rfl⟩,h⟩
theorem yT {P:Program} {ops:Array Oper} {K:Array Bool→Act→Prop} {i d:Nat} {r:List Nat} {li:Array Bool} {a:Act} {oi:Oper} (hi:ops[i]?=some oi) (hd:oi.dst=some d)
  (hw:Region.wanted oi (yielded ops a.tmps)=true) (v:Value) (hy:∀w,(execOp a.eval oi).run P w= .ok (.value v) w) (h:YL P ops (fun _=>True) K r (li.setIfInBounds i true) (a.put (some d) v)):YL P ops (fun _=>True) K (i::r) li a:=⟨oi,d,v,hi,hd,.inl ⟨hw,fun w _=>hy w⟩,h⟩
theorem yM {P:Program} {ops:Array Oper} {Q:Exit→Act→World→Prop} {md:Region.Mode} (l:List Nat) {F:Nat} {li:Array Bool} {a:Act} {w:World}
  (hc:(Region.noSelect ops&&(decide (l.length≤F)&&yK md ops l li))=true) (hQ:∀c a d v w,Q (.panic c) (a.put (some d) v) w→Q (.panic c) a w)
  (h:YL P ops (fun _=>True) (fun li a=>wpAny P md ops Q (F-l.length) li a w) l li a):wpAny P md ops Q F li a w:=by
 induction l generalizing F li a with
 |nil=>exact h
 |cons i r ih=>
  rw[Bool.and_eq_true,Bool.and_eq_true,decide_eq_true_eq] at hc
  obtain⟨hs,hl,hk⟩:=hc
  unfold yK at hk
  rw[Bool.and_eq_true,Bool.and_eq_true] at hk
  obtain⟨oi,d,v,hi,hd,hy,hr⟩:=h
  obtain⟨G,rfl⟩:∃G,F=G+1:=⟨F-1,by have:=hl;simp only[List.length_cons] at this;omega⟩
  simp only[List.length_cons] at hl hr
  rw[←hd] at hr
  refine wpAny_take hi hs hk.1.1 hk.1.2 (fun c a w=>by rw[hd];exact hQ c a _ _ w) (hy.elim (fun h=> .inl ⟨h.1,fun w=>h.2 w trivial⟩) .inr) (ih ?_ ?_)
  ·rw[Bool.and_eq_true,Bool.and_eq_true,decide_eq_true_eq]
   exact⟨hs,by omega,hk.2⟩
  ·rw[Nat.add_sub_add_right] at hr;exact hr
theorem yZ {P:Program} {ops:Array Oper} {S:World→Prop} {K:Array Bool→Act→Prop} {li:Array Bool} {a:Act} (h:K li a):YL P ops S K [] li a:=h
abbrev yI (n:Int):Value:= .int .i64 n
theorem yH {p:Prop} (h:p):RowKit.Hid p:=Lib.hid h
theorem yA {α:Type _} (l:List α) (i:Nat) (a:α):l.toArray.setIfInBounds i a=(l.set i a).toArray:=List.setIfInBounds_toArray l i a
theorem yB {α:Type _} {x:α} {xs:List α} {a:α}:(x::xs).set 0 a=a::xs:=rfl
theorem yC {α:Type _} {x:α} {xs:List α} {i:Nat} {a:α}:(x::xs).set (i+1) a=x::xs.set i a:=rfl
theorem yD {α:Type _} {xs:List α} {i:Nat} (h:i<xs.toArray.size):xs.toArray[i]=xs[i]:=List.getElem_toArray h
theorem yE {α:Type _} (a:α) (bs:List α) (i:Nat) (h:i+1<(a::bs).length):(a::bs)[i+1]=bs[i]'(Nat.lt_of_succ_lt_succ h):=rfl
theorem yF {α:Type _} (a:α) (bs:List α) (h:0<(a::bs).length):(a::bs)[0]=a:=rfl
end Go.Proofs.YtjhjdiaomnpkmaaGreatDoor
