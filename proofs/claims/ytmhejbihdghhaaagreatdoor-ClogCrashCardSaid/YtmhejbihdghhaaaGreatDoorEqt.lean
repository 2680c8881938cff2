/-
  Structs held against each other field by field
-/
import Derived.Test.YtmhejbihdghhaaaGreatDoorQcab
import Derived.Stop.BytesEq
namespace Go.Proofs.YtmhejbihdghhaaaGreatDoor
set_option linter.unusedVariables false
open Go.RowKit Go.Proofs
def jcd (d:Nat)(xs ys:Array Value):List (Bool × TypeId × Nat)->Sem Bool
 | []=>pure true
 |(b,t,o)::fs=>
  if b=true then do
   let x<-part t xs o
   let y<-part t ys o
   let r<-Op.equalIn d t x y
   if (!r)=true then pure false else jcd d xs ys fs
  else jcd d xs ys fs
theorem jdy (d : Nat) (xs ys : Array Value) : ∀ fs : List Field, Op.eqFields d xs ys fs = jcd d xs ys (fs.map fun f => (decide (f.name ≠ "_"), f.type, f.offset))
 | []=>rfl
 |f::fs=>by
  rw [Op.eqFields,List.map_cons,jcd,jdy d xs ys fs]
  by_cases h : f.name ≠ "_"
  ·rw [if_pos h,if_pos (decide_eq_true h)]
  ·rw [if_neg h,if_neg (by simpa using h)]
section
variable {P:Program}(w:World)
theorem jjW {t:TypeId}{k:IntKind}(h:P.underlying t=some (.int k))(xs:Array Value)(o:Nat)(u:Value)(hu:xs[o]? =some u):(part t xs o).run P w= .ok u w:=by
 simp [part,isAgg,run_underlying h,hu]
theorem jed {d:Nat}{t:TypeId}{k k1:IntKind}(h:P.underlying t=some (.int k)){xs ys:Array Value}{o:Nat}{a b:Int}(hx:xs[o]? =some (.int k1 a))(hy:ys[o]? =some (.int k1 b))(fs:List (Bool × TypeId × Nat)){r:Bool}
  (hr:(jcd (d+1) xs ys fs).run P w= .ok r w):(jcd (d+1) xs ys ((true,t,o)::fs)).run P w= .ok (a==b && r) w:=by
 have he:(Op.equalIn (d+1) t (.int k1 a) (.int k1 b)).run P w= .ok (a==b) w:=by simp [Op.equalIn,run_underlying h]
 simp only [jcd,if_pos,Sem.run_bind,jjW w h xs o _ hx,jjW w h ys o _ hy,he,Result.andThen_ok]
 cases (a==b)
 ·simp
 ·simp [hr]
theorem jjX {t:TypeId}(h:P.underlying t=some .string)(xs:Array Value)(o:Nat)(u:Value)(hu:xs[o]? =some u):(part t xs o).run P w= .ok u w:=by
 simp [part,isAgg,run_underlying h,hu]
theorem jho {t:TypeId}(h:P.underlying t=some .bool)(xs:Array Value)(o:Nat)(u:Value)(hu:xs[o]? =some u):(part t xs o).run P w= .ok u w:=by
 simp [part,isAgg,run_underlying h,hu]
theorem jkJ {d:Nat}{t:TypeId}(h:P.underlying t=some .string){xs ys:Array Value}{o:Nat}{a b:ByteArray}(hx:xs[o]? =some (.string a))(hy':ys[o]? =some (.string b))(fs:List (Bool × TypeId × Nat)){r:Bool}
  (hr:(jcd (d+1) xs ys fs).run P w= .ok r w):(jcd (d+1) xs ys ((true,t,o)::fs)).run P w= .ok ((a.toList==b.toList) && r) w:=by
 have he:=run_equalIn_string (P:=P) w d t a b h;obtain⟨y,hy⟩:∃y,y=(a.toList==b.toList):=⟨_,rfl⟩;rw [<-hy] at he ⊢;simp only [jcd,if_pos,Sem.run_bind,jjX w h xs o _ hx,jjX w h ys o _ hy',he,Result.andThen_ok]
 cases y
 ·simp
 ·simp [hr]
theorem jiH {d:Nat}{t:TypeId}(h:P.underlying t=some .bool){xs ys:Array Value}{o:Nat}{a b:Bool}(hx:xs[o]? =some (.bool a))(hy':ys[o]? =some (.bool b))(fs:List (Bool × TypeId × Nat)){r:Bool}
  (hr:(jcd (d+1) xs ys fs).run P w= .ok r w):(jcd (d+1) xs ys ((true,t,o)::fs)).run P w= .ok ((a==b) && r) w:=by
 have he:=run_equalIn_bool' (P:=P) w d t a b h;obtain⟨y,hy⟩:∃y,y=(a==b):=⟨_,rfl⟩;rw [<-hy] at he ⊢;simp only [jcd,if_pos,Sem.run_bind,jho w h xs o _ hx,jho w h ys o _ hy',he,Result.andThen_ok]
 cases y
 ·simp
 ·simp [hr]
end
end Go.Proofs.YtmhejbihdghhaaaGreatDoor
