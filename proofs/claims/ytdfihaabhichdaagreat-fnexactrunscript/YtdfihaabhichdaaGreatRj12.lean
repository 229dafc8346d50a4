/-
  A region that draws its order, with two operations that write, the one behind the other: what holds of each value that has come up. No function walked.
-/
import Derived.Test.YtdfihaabhichdaaGreatRj11
namespace Go.Proofs.YtdfihaabhichdaaGreat
open Go.RowKit
set_option linter.unusedVariables false

def RT (B0:World→Prop) (F:(Nat→Value)→Act) (k h:Nat) (D:Prop→Prop→World→Nat→Value→Prop) (x:List Bool) (A:Act) (W:World):Prop :=
  ∃ f,A = F f∧(¬ x[k]? = some true→B0 W)∧∀ j,x[j]? = some true→D (x[k]? = some true) (x[h]? = some true) W j (f j)
section
variable {B0:World→Prop} {W W':World} {k h:Nat} {D:Prop→Prop→World→Nat→Value→Prop} {x:List Bool} {f:Nat→Value}
theorem zx (hh:∀ j,x[j]? = some true→D (x[k]? = some true) (x[h]? = some true) W j (f j)) {i:Nat} (hik:i ≠ k) (hih:i ≠ h) (hm:∀ j v,D (x[k]? = some true) (x[h]? = some true) W j v→D (x[k]? = some true) (x[h]? = some true) W' j v) (hB:¬ x[k]? = some true→B0 W') {v:Value} (hv:D (x[k]? = some true) (x[h]? = some true) W' i v) :
    (¬ (x.set i true)[k]? = some true→B0 W')∧∀ j,(x.set i true)[j]? = some true→D ((x.set i true)[k]? = some true) ((x.set i true)[h]? = some true) W' j (upd f i v j):=by
  rw [List.getElem?_set_ne hik,List.getElem?_set_ne hih]
  refine ⟨hB,fun j hj=>?_⟩
  by_cases hji:j = i
  · subst hji; rw [zp]; exact hv
  · rw [zq _ _ hji]
    rw [List.getElem?_set_ne (fun e=>hji e.symm)] at hj
    exact hm _ _ (hh j hj)
theorem rt_one (hkh:k ≠ h) (hh:∀ j,x[j]? = some true→D (x[k]? = some true) (x[h]? = some true) W j (f j)) (hk:x[k]? = some false) (hn:¬ x[h]? = some true) (hm:∀ j v,j ≠ k→D False False W j v→D True False W' j v) {v:Value} (hv:D True False W' k v) :
    (¬ (x.set k true)[k]? = some true→B0 W')∧∀ j,(x.set k true)[j]? = some true→D ((x.set k true)[k]? = some true) ((x.set k true)[h]? = some true) W' j (upd f k v j):=by
  have e:((x.set k true)[k]? = some true) = True:=by
    rw [List.getElem?_set_self (List.getElem?_eq_some_iff.1 hk).1]; simp
  have e2:((x.set k true)[h]? = some true) = False:=by
    rw [List.getElem?_set_ne hkh]; exact eq_false hn
  have e3:(x[h]? = some true) = False:=eq_false hn
  have e4:(x[k]? = some true) = False:=by rw [hk]; simp
  rw [e,e2]
  refine ⟨fun h=>absurd trivial h,fun j hj=>?_⟩
  by_cases hji:j = k
  · subst hji; rw [zp]; exact hv
  · rw [zq _ _ hji]
    rw [List.getElem?_set_ne (fun e=>hji e.symm)] at hj
    have:=hh j hj
    rw [e3,e4] at this
    exact hm j _ hji this
theorem rt_two (hkh:h ≠ k) (hh:∀ j,x[j]? = some true→D (x[k]? = some true) (x[h]? = some true) W j (f j)) (hk:x[k]? = some true) (hn:x[h]? = some false) (hm:∀ j,j ≠ h→x[j]? = some true→D True False W j (f j)→D True True W' j (f j)) {v:Value} (hv:D True True W' h v) :
    (¬ (x.set h true)[k]? = some true→B0 W')∧∀ j,(x.set h true)[j]? = some true→D ((x.set h true)[k]? = some true) ((x.set h true)[h]? = some true) W' j (upd f h v j):=by
  have e:((x.set h true)[h]? = some true) = True:=by
    rw [List.getElem?_set_self (List.getElem?_eq_some_iff.1 hn).1]; simp
  have e2:((x.set h true)[k]? = some true) = True:=by
    rw [List.getElem?_set_ne hkh,hk]; simp
  have e3:(x[h]? = some true) = False:=by rw [hn]; simp
  have e4:(x[k]? = some true) = True:=by rw [hk]; simp
  rw [e,e2]
  refine ⟨fun h=>absurd trivial h,fun j hj=>?_⟩
  by_cases hji:j = h
  · subst hji; rw [zp]; exact hv
  · rw [zq _ _ hji]
    rw [List.getElem?_set_ne (fun e=>hji e.symm)] at hj
    have:=hh j hj
    rw [e3,e4] at this
    exact hm j hji hj this
end
end Go.Proofs.YtdfihaabhichdaaGreat
namespace Go.Proofs.YtdfihaabhichdaaGreat
open Go.RowKit
set_option linter.unusedVariables false

def Ev.vs (e:Ev):List Value:=[.int .i64 e.kind,.int .i64 e.cmd.k,.int .i64 e.cmd.s,.int .i64 e.cmd.t,.int .i64 e.cmd.l,.int .i64 e.cmd.q,.int .i64 e.cmd.i,.float .f64 e.cmd.p,.string e.cmd.g,.int .i64 e.id,.int .i64 e.other,.int .i64 e.qty,.int .i64 e.price,.int .i64 e.reason]
theorem Ev.len (e:Ev):e.vs.length = 14:=rfl
def zCm:Cm:=⟨0,0,0,0,0,0,0,⟨#[]⟩⟩
def trE (tid fid qty ftk:Int):Ev:=⟨3,zCm,tid,fid,qty,ftk,0⟩
abbrev ERow (W:World) (B:Nat) (v:Value) (l:List Ev):Prop:=W.ownsRow B 80 14 v l.length (l.flatMap Ev.vs)
theorem infoEv:(Tryz.prog.info? 80).map (fun i=>(i.zero,i.size,i.bytes)) = some (some (.agg #[.int .i64 0,.int .i64 0,.int .i64 0,.int .i64 0,.int .i64 0,.int .i64 0,.int .i64 0,.float .f64 0,.string ⟨#[]⟩,.int .i64 0,.int .i64 0,.int .i64 0,.int .i64 0,.int .i64 0]),14,120):=by kernel_rfl
theorem one_ev (e:Ev):∀ u ∈ e.vs,u.oneCell' = true:=by
 intro u hu
 simp [Ev.vs] at hu
 rcases hu with rfl | rfl | rfl | rfl | rfl | rfl | rfl | rfl | rfl | rfl | rfl | rfl | rfl | rfl <;> rfl
theorem zL {W W':World} {B:Nat} {v:Value} {l:List Ev} (h:ERow W B v l) (hb:Below W.heap.size W W'):ERow W' B v l :=
 World.ownsRow.kept h (row:=none) (zaa hb (Nat.le_refl _)) (by cases v.ownBlock <;> simp)
theorem zby {W:World} {B:Nat} {v:Value} {l:List Ev} (h:ERow W B v l) {b:Nat} (hb:b < B) (o:Nat) (u:Value):ERow (W.setCell ⟨b,o,none⟩ u) B v l :=
 ownsRow_setCell_below h (a:=⟨b,o,none⟩) hb u
theorem zbI {W:World} {B e sz n:Nat} {v:Value} {xs:List Value} (h:W.ownsRow B e sz v n xs) (hn:0 < n):∃ g c,v = .slice (some ⟨g,0,none⟩) n c:=by
 rcases h.2 with ⟨_,h0⟩ | ⟨g,cap,_,h1,_⟩
 ·omega
 ·exact ⟨g,cap,h1⟩
theorem cellsT (W:World) (e:Ev) (t:TypeId):∀ j u,e.vs[j]? = some u→(W.alloc (Obj.cells e.vs.toArray t)).cell? ((⟨W.heap.size,0,none⟩:Addr).add j) = some u:=fun j u h=>zci W e.vs t j u h
def DT (mb fb B:Nat) (W0:World) (vt:Value) (ts:List Ev) (tid fid qty ftk:Int) (p q:Prop) (V:World):Nat→Value→Prop
 | 0,v=>v = .pointer (some ⟨mb,0,none⟩)
 | 1,v=>v = .pointer (some ⟨mb,0,none⟩)
 | 2,v=>v = .pointer (some ⟨mb,0,none⟩)
 | 3,v=>v = .pointer (some ⟨mb,8,none⟩)
 | 4,v=>v = vt
 | 5,v=>v = .pointer (some ⟨mb,0,none⟩)
 | 6,v=>v = .pointer (some ⟨mb,0,none⟩)
 | 7,v=>v = .pointer (some ⟨mb,2,none⟩)
 | 8,v=>v = .pointer (some ⟨mb,2,none⟩)
 | 9,v=>v = .int .i64 tid
 | 10,v=>v = .pointer (some ⟨fb,0,none⟩)
 | 11,v=>v = .int .i64 fid
 | 12,v=>v = .int .i64 qty
 | 13,v=>v = .pointer (some ⟨fb,2,none⟩)
 | 14,v=>v = .int .i64 ftk
 | 15,v=>v = evV (trE tid fid qty ftk)
 | 16,v=>∃ s,v = .slice (some ⟨s,0,none⟩) 1 1∧(¬ p→∀ j u,(trE tid fid qty ftk).vs[j]? = some u→V.cell? ((⟨s,0,none⟩:Addr).add j) = some u)
 | 17,v=>∃ a c,v = .slice a (ts.length + 1) c∧p∧(¬ q→ERow V B v (ts ++ [trE tid fid qty ftk])∧W0.grownBy V vt.ownBlock)∧(q→V.cell? ⟨mb,8,none⟩ = some v∧ERow V B v (ts ++ [trE tid fid qty ftk])∧TookAt mb 7 vt.ownBlock W0 V)
 | 18,v=>v = .pointer (some ⟨mb,0,none⟩)
 | 19,v=>v = .pointer (some ⟨mb,8,none⟩)
 | _,_=>True
section
variable {mb fb B:Nat} {W0 V V':World} {vt:Value} {ts:List Ev} {tid fid qty ftk:Int} {p q:Prop}
theorem dt_alloc {o:Obj} (hp:¬ p):∀ j v,DT mb fb B W0 vt ts tid fid qty ftk p q V j v→DT mb fb B W0 vt ts tid fid qty ftk p q (V.alloc o) j v:=by
 intro j v h
 match j with
 | 0 | 1 | 2 | 3 | 4 | 5 | 6 | 7 | 8 | 9 | 10 | 11 | 12 | 13 | 14 | 15 | 18 | 19=>exact h
 | 16 =>
  obtain ⟨s,h1,h2⟩:=h
  exact ⟨s,h1,fun hp j u hu=>(World.cell?_alloc_lt _ _ _ (World.block_lt_of_cell? V _ (h2 hp j u hu))).trans (h2 hp j u hu)⟩
 | 17=>obtain ⟨_,_,_,h2,_⟩:=h; exact absurd h2 hp
 | j + 20=>trivial
theorem dt_one:∀ j v,j ≠ 17→DT mb fb B W0 vt ts tid fid qty ftk False False V j v→DT mb fb B W0 vt ts tid fid qty ftk True False V' j v:=by
 intro j v hj h
 match j with
 | 0 | 1 | 2 | 3 | 4 | 5 | 6 | 7 | 8 | 9 | 10 | 11 | 12 | 13 | 14 | 15 | 18 | 19=>exact h
 | 16 =>
  obtain ⟨s,h1,h2⟩:=h
  exact ⟨s,h1,fun hp=>absurd trivial hp⟩
 | 17=>exact absurd rfl hj
 | j + 20=>trivial
theorem dt_two {v:Value}:∀ j,j ≠ 20→DT mb fb B W0 vt ts tid fid qty ftk True False V j v→(j = 17→DT mb fb B W0 vt ts tid fid qty ftk True True V' 17 v)→DT mb fb B W0 vt ts tid fid qty ftk True True V' j v:=by
 intro j hj h h17
 match j with
 | 0 | 1 | 2 | 3 | 4 | 5 | 6 | 7 | 8 | 9 | 10 | 11 | 12 | 13 | 14 | 15 | 18 | 19=>exact h
 | 16 =>
  obtain ⟨s,h1,h2⟩:=h
  exact ⟨s,h1,fun hp=>absurd trivial hp⟩
 | 17=>exact h17 rfl
 | j + 20=>trivial
end
end Go.Proofs.YtdfihaabhichdaaGreat
