/-
  The trades of a new order, as lists: the fronts of the other side one behind the other. No function walked.
-/
import Derived.Test.YtbakanofkghmiaaGreatPj17
set_option linter.unusedVariables false
set_option maxHeartbeats 6400000
set_option maxRecDepth 100000
namespace Go.Proofs.YtbakanofkghmiaaGreat
open Go.RowKit
def aD (l:List Od) (sd:Int):Option Od:=(quOf (decide (sd = 1)) (zn l sd)).head?
def matL (c:Cm) (id:Int):Nat→List Od→Int→List Ev→List Od × Int × List Ev
 | 0,l,left,ts=>(l,left,ts)
 | n + 1,l,left,ts =>
  if 0 < left then
   match aD l (othS c.s) with
   | none=>(l,left,ts)
   | some o=>if aI c o = true then matL c id n (zR l (plc l o.id).toNat o (min left o.left)) (left - min left o.left) (ts ++ [trE id o.id (min left o.left) o.ticks]) else (l,left,ts)
  else (l,left,ts)
structure GoodL (l:List Od):Prop where
 len:l.length ≤ 20
 left:∀ o ∈ l,0 < o.left∧o.left ≤ 1000000
 rise:aH l
theorem cX {l:List Od} {sd:Int} {o:Od} (h:aD l sd = some o):o ∈ l∧o.side = sd:=by
 have z:o ∈ quOf (decide (sd = 1)) (zn l sd):=List.mem_of_head? h
 obtain ⟨k,_,K⟩:=List.mem_flatMap.1 z
 have h3:=(List.mem_filter.1 K).1
 have h4:=List.mem_filter.1 h3
 exact ⟨h4.1,by simpa using h4.2⟩
theorem rise_id {l:List Od} (hr:aH l) {i k:Nat} {o o':Od} (hi:l[i]? = some o') (hk:l[k]? = some o) (he:o'.id = o.id):i = k:=by
 obtain ⟨z,rfl⟩:=yD.1 hi
 obtain ⟨K,rfl⟩:=yD.1 hk
 rcases Nat.lt_trichotomy i k with h | h | h
 ·have:=List.pairwise_iff_getElem.1 hr i k z K h; omega
 ·exact h
 ·have:=List.pairwise_iff_getElem.1 hr k i K z h; omega
theorem plc_at {l:List Od} (hr:aH l) {k:Nat} {o:Od} (hk:l[k]? = some o):plc l o.id = k:=by
 rcases plcF_spec o.id l 0 with ⟨_,K⟩ | ⟨i,o',z,K,h3,_⟩
 ·exact absurd rfl (K o (yL hk))
 ·rw [plc,z,rise_id hr K hk h3]; congr 1; omega
theorem dd {l:List Od} (h:GoodL l) {k:Nat} {o:Od} (hk:l[k]? = some o) {qty:Int} (h0:0 ≤ qty) (z:qty ≤ o.left):GoodL (zR l k o qty)∧((zR l k o qty).length + 1 = l.length ∨ (qty < o.left∧(zR l k o qty).length = l.length)):=by
 have jZ:=(yD.1 hk).1
 by_cases he:o.left = qty
 ·have e:zR l k o qty = l.take k ++ l.drop (k + 1):=if_pos he
  rw [e]
  have hs:(l.take k ++ l.drop (k + 1)).Sublist l:=by
   have:(l.take k ++ l.drop (k + 1)).Sublist (l.take k ++ l.drop k):=List.Sublist.append (List.Sublist.refl _) (by rw [drop_get hk]; exact List.sublist_cons_self _ _)
   rwa [List.take_append_drop] at this
  refine ⟨⟨yK hs.length_le h.len,fun o' vk=>h.left o' (hs.subset vk),h.rise.sublist hs⟩,.inl ?_⟩
  simp; omega
 ·have e:zR l k o qty = l.set k { o with left:=o.left - qty }:=if_neg he
  rw [e]
  have Y:=h.left o (yL hk)
  refine ⟨⟨by rw [List.length_set]; exact h.len,fun o' vk=>?_,?_⟩,.inr ⟨by omega,by rw [List.length_set]⟩⟩
  ·rcases List.mem_or_eq_of_mem_set vk with K | rfl
   ·exact h.left o' K
   ·simp only; omega
  ·refine List.pairwise_iff_getElem.2 fun i j hi L ar=>?_
   rw [List.length_set] at hi L
   have hp:=List.pairwise_iff_getElem.1 h.rise i j hi L ar
   have kU:l[k] = o:=by have:=(yD.1 hk).2; exact this
   rw [List.getElem_set,List.getElem_set]
   split <;> split
   ·omega
   ·next K _=>subst K; rw [kU] at hp; exact hp
   ·next _ K=>subst K; rw [kU] at hp; exact hp
   ·exact hp
structure MI (c:Cm) (id:Int) (xh:List Od × Int × List Ev) (l:List Od) (left:Int) (ts:List Ev):Prop where
 good:GoodL l
 l0:0 ≤ left
 l1:left ≤ 1000000
 few:ts.length ≤ 21
 some:0 < left→ts.length + l.length ≤ 20
 goal:∃ n,matL c id n l left ts = xh∧(0 < left→l.length < n)
theorem matL_end {c:Cm} {id:Int} {n:Nat} {l:List Od} {left:Int} {ts:List Ev} (h:left ≤ 0):matL c id n l left ts = (l,left,ts):=by
 cases n with
 | zero=>rfl
 | succ n=>rw [matL,if_neg (by omega)]
theorem mi_start {c:Cm} {id:Int} {l:List Od} {left:Int} (h:GoodL l) (h0:0 ≤ left) (z:left ≤ 1000000):MI c id (matL c id 21 l left []) l left [] :=
 ⟨h,h0,z,by simp,fun _=>by simpa using h.len,21,rfl,fun _=>by have:=h.len; omega⟩
theorem mi_none {c:Cm} {id:Int} {xh:List Od × Int × List Ev} {l:List Od} {left:Int} {ts:List Ev} (h:MI c id xh l left ts) (hf:aD l (othS c.s) = none):xh = (l,left,ts):=by
 obtain ⟨n,rfl,hn⟩:=h.goal
 by_cases h0:0 < left
 ·obtain ⟨m,rfl⟩:∃ m,n = m + 1:=⟨n - 1,by have:=hn h0; omega⟩
  rw [matL,if_pos h0,hf]
 ·exact matL_end (by omega)
theorem mi_stop {c:Cm} {id:Int} {xh:List Od × Int × List Ev} {l:List Od} {left:Int} {ts:List Ev} (h:MI c id xh l left ts) {o:Od} (hf:aD l (othS c.s) = some o) (hm:aI c o = false):xh = (l,left,ts):=by
 obtain ⟨n,rfl,hn⟩:=h.goal
 by_cases h0:0 < left
 ·obtain ⟨m,rfl⟩:∃ m,n = m + 1:=⟨n - 1,by have:=hn h0; omega⟩
  rw [matL,if_pos h0,hf]
  simp only [hm]
  rw [if_neg (by simp)]
 ·exact matL_end (by omega)
theorem mi_done {c:Cm} {id:Int} {xh:List Od × Int × List Ev} {l:List Od} {left:Int} {ts:List Ev} (h:MI c id xh l left ts) (h0:¬ 0 < left):xh = (l,left,ts):=by
 obtain ⟨n,rfl,hn⟩:=h.goal
 exact matL_end (by omega)
theorem mi_step {c:Cm} {id:Int} {xh:List Od × Int × List Ev} {l:List Od} {left:Int} {ts:List Ev} (h:MI c id xh l left ts) (h0:0 < left) {o:Od} (hf:aD l (othS c.s) = some o) (hm:aI c o = true) :
  ∃ k,plc l o.id = (k:Nat)∧l[k]? = some o∧MI c id xh (zR l k o (min left o.left)) (left - min left o.left) (ts ++ [trE id o.id (min left o.left) o.ticks])∧2 * (zR l k o (min left o.left)).length + (if 0 < left - min left o.left then 1 else 0) < 2 * l.length + 1:=by
 obtain ⟨vi,_⟩:=cX hf
 obtain ⟨k,hk⟩:=List.getElem?_of_mem vi
 have hp:=plc_at h.good.rise hk
 have Y:=h.good.left o vi
 have z:=h.l1
 have hs:=h.some h0
 obtain ⟨hg,hl⟩:=dd h.good hk (qty:=min left o.left) (by omega) (by omega)
 obtain ⟨n,hF,hn⟩:=h.goal
 obtain ⟨m,rfl⟩:∃ m,n = m + 1:=⟨n - 1,by have:=hn h0; omega⟩
 have hn:=hn h0
 rw [matL,if_pos h0,hf] at hF
 simp only [hm,if_true] at hF
 rw [hp,Int.toNat_natCast] at hF
 refine ⟨k,hp,hk,⟨hg,by omega,by omega,?_,fun xL=>?_,m,hF,fun xL=>?_⟩,?_⟩
 ·rw [yM]; simp only [List.length_cons,List.length_nil]; omega
 ·rw [yM]; simp only [List.length_cons,List.length_nil]; omega
 ·omega
 ·split <;> omega
section
variable {base W W':World} {xh:(Nat→Value)→Act} {k:Nat} {xd:Prop→World→Nat→Value→Prop} {x:List Bool} {f:Nat→Value}
theorem aP (hb:yl base W) (h:∀ j,x[j]? = some true→xd (x[k]? = some true) W j (f j)) (hg:yl W W') {i:Nat} (hik:i ≠ k) (hm:∀ j v,xd (x[k]? = some true) W j v→xd (x[k]? = some true) W' j v) {v:Value} (hv:xd (x[k]? = some true) W' i v) :
  yl base W'∧∀ j,(x.set i true)[j]? = some true→xd ((x.set i true)[k]? = some true) W' j (upd f i v j):=by
 refine ⟨hb.trans (hg.mono hb.size),fun j L=>?_⟩
 rw [yT hik]
 by_cases hji:j = i
 ·subst hji; rw [zp]; exact hv
 ·rw [zr _ _ hji]
  rw [yT (fun e=>hji e.symm)] at L
  exact hm _ _ (h j L)
theorem rgx_last (hb:yl base W') (h:∀ j,x[j]? = some true→xd (x[k]? = some true) W j (f j)) (hk:x[k]? = some false) (hm:∀ j,j ≠ k→x[j]? = some true→xd False W j (f j)→xd True W' j (f j)) {v:Value} (hv:xd True W' k v) :
  yl base W'∧∀ j,(x.set k true)[j]? = some true→xd ((x.set k true)[k]? = some true) W' j (upd f k v j):=by
 have e:((x.set k true)[k]? = some true) = True:=by
  rw [List.getElem?_set_self (yD.1 hk).1]; simp
 refine ⟨hb,fun j L=>?_⟩
 rw [e]
 by_cases hji:j = k
 ·subst hji; rw [zp]; exact hv
 ·rw [zr _ _ hji]
  rw [yT (fun e=>hji e.symm)] at L
  refine hm j hji L ?_
  have:=h j L
  rw [hk] at this
  simpa using this
end
theorem matS_made {V:World} {N B:Nat} {next:Int} {a4:Option Addr} {c4:Nat} {l:List Od} {c:Cm} (ht:V.there N 0 9) (hb:∃ xp,V.heap[N]? = some (.cells xp 157 (0,0))) (Y:ORow V B (.slice a4 l.length c4) l) (hB:B ≤ V.heap.size) :
  MatS N B (V.setCells N 0 [H next,.slice a4 l.length c4,H next,H c.s,H (tk c.p),H c.q,H c.l,yi c.g,.slice none 0 0]) next (.slice a4 l.length c4) l (ordO c next) (.slice none 0 0) []:=by
 have hn:some N ≠ (Value.slice a4 l.length c4).ownBlock:=zo Y hb (by decide)
 have hr:=yU V N 0 [H next,.slice a4 l.length c4,H next,H c.s,H (tk c.p),H c.q,H c.l,yi c.g,.slice none 0 0] (fun j L=>ht j L)
 refine ⟨hr,fun j L=>⟨?_,?_⟩,?_,World.ownsRow_nil _ _ _ _,?_,?_⟩
 ·obtain ⟨u,hu⟩:∃ u,[H next,.slice a4 l.length c4,H next,H c.s,H (tk c.p),H c.q,H c.l,yi c.g,.slice none 0 0][j]? = some u:=⟨_,yE (by simpa using L)⟩
  rw [hr j u hu]; rfl
 ·have:=(ht j L).2
  simp only [World.setCells,World.frozen?_setCell]
  exact this
 ·simp only [World.setCells]
  exact zw (zw (zw (zw (zw (zw (zw (zw (zw Y hn _ _) hn _ _) hn _ _) hn _ _) hn _ _) hn _ _) hn _ _) hn _ _) hn _ _
 ·obtain ⟨xp,hb⟩:=hb
  simp only [World.setCells]
  obtain ⟨_,z⟩:=zY V N 0 (H next) hb
  obtain ⟨_,z⟩:=zY _ N 1 (.slice a4 l.length c4) z
  obtain ⟨_,z⟩:=zY _ N 2 (H next) z
  obtain ⟨_,z⟩:=zY _ N 3 (H c.s) z
  obtain ⟨_,z⟩:=zY _ N 4 (H (tk c.p)) z
  obtain ⟨_,z⟩:=zY _ N 5 (H c.q) z
  obtain ⟨_,z⟩:=zY _ N 6 (H c.l) z
  obtain ⟨_,z⟩:=zY _ N 7 (yi c.g) z
  exact zY _ N 8 (.slice none 0 0) z
 ·simp only [World.setCells,World.setCell,Array.size_modify]; exact hB
def DM (b2 B:Nat) (base:World) (next:Int) (a:Option Addr) (F:Nat) (l:List Od) (c:Cm) (p:Prop) (V:World):Nat→Value→Prop
 | 0,v=>v = .agg #[H next,.slice a l.length F]
 | 1,v=>∃ a4 c4,v = .agg #[H next,.slice a4 l.length c4]∧(¬ p→ORow V B (.slice a4 l.length c4) l)
 | 2,v=>v = .agg #[H c.s,H c.t,H c.l,H c.q,yh c.p,yi c.g]
 | 3,v=>v = I b2 0
 | 4,v=>v = H next
 | 5,v=>v = .agg (yt next c.s (tk c.p) c.q c.l c.g).toArray
 | 6,v=>∃ a4 c4,v = .agg #[H next,.slice a4 l.length c4,H next,H c.s,H (tk c.p),H c.q,H c.l,yi c.g,.slice none 0 0]∧(¬ p→ORow V B (.slice a4 l.length c4) l)
 | 7,v=>∃ N,v = I N 0∧base.heap.size ≤ N∧(¬ p→V.there N 0 9∧∃ xp,V.heap[N]? = some (.cells xp 157 (0,0)))∧(p→∃ a4 c4,MatS N B V next (.slice a4 l.length c4) l (ordO c next) (.slice none 0 0) [])
 | _,_=>True
section
variable {b2 B:Nat} {base V V':World} {next:Int} {a:Option Addr} {F:Nat} {l:List Od} {c:Cm} {p:Prop}
theorem dm_grow (hp:¬ p) (hb:yl V V'):∀ j v,DM b2 B base next a F l c p V j v→DM b2 B base next a F l c p V' j v:=by
 intro j v h
 match j with
 | 0 | 2 | 3 | 4 | 5=>exact h
 | 1=>obtain ⟨a4,c4,z,K⟩:=h; exact ⟨a4,c4,z,fun hp=>zj (K hp) hb⟩
 | 6=>obtain ⟨a4,c4,z,K⟩:=h; exact ⟨a4,c4,z,fun hp=>zj (K hp) hb⟩
 | 7 =>
  obtain ⟨N,z,K,h3,h4⟩:=h
  refine ⟨N,z,K,fun hp=>?_,fun h=>absurd h hp⟩
  obtain ⟨h5,xp,h6⟩:=h3 hp
  have xL:=(yV.1 h6).1
  exact ⟨zf h5 hb xL,xp,(hb.block N xL).trans h6⟩
 | j + 8=>trivial
theorem dm_last {v:Value}:∀ j,j ≠ 8→DM b2 B base next a F l c False V j v→(j = 7→DM b2 B base next a F l c True V' 7 v)→DM b2 B base next a F l c True V' j v:=by
 intro j L h h7
 match j with
 | 0 | 2 | 3 | 4 | 5=>exact h
 | 1=>obtain ⟨a4,c4,z,K⟩:=h; exact ⟨a4,c4,z,fun hp=>absurd trivial hp⟩
 | 6=>obtain ⟨a4,c4,z,K⟩:=h; exact ⟨a4,c4,z,fun hp=>absurd trivial hp⟩
 | 7=>exact h7 rfl
 | j + 8=>trivial
end
theorem matS_next {N B:Nat} {W:World} {next:Int} {vq:Value} {l:List Od} {t:Od} {vt:Value} {ts:List Ev} (h:MatS N B W next vq l t vt ts) (n':Int):MatS N B (W.setCell (J N 0) (H n')) n' vq l t vt ts:=by
 have hoth:∀ j,j ≠ 0→(W.setCell (J N 0) (H n')).cell? (J N j) = W.cell? (J N j):=fun j L=>yI _ _ _ _ (zI (fun e=>L e.symm))
 have px:(W.setCell (J N 0) (H n')).cell? (J N 0) = some (H n'):=yJ _ _ _ (h.cells 0 _ rfl)
 refine ⟨?_,fun j L=>⟨?_,?_⟩,zw h.orow h.nq 0 _,zw h.erow h.nt 0 _,by obtain ⟨xp,hc⟩:=h.box; exact zY W N 0 _ hc,by have:=h.le; simpa [World.setCell] using this⟩
 ·intro j u L
  rw [Nat.zero_add]
  rcases j with _ | j
  ·cases L; exact px
  ·rw [hoth (j + 1) (by omega)]
   have:W.cell? (J N (0 + (j + 1))) = some u:=h.cells (j + 1) u L
   rwa [Nat.zero_add] at this
 ·rw [Nat.zero_add]
  rcases j with _ | j
  ·rw [px]; rfl
  ·rw [hoth (j + 1) (by omega)]; have:=(h.there (j + 1) L).1; rwa [Nat.zero_add] at this
 ·rw [World.frozen?_setCell]; exact (h.there j L).2
theorem dr {N B:Nat} {W W':World} {next:Int} {vq:Value} {l:List Od} {t:Od} {vt:Value} {ts:List Ev} (h:MatS N B W next vq l t vt ts) (hb:yl W W'):MatS N B W' next vq l t vt ts :=
 ⟨zb h.cells hb h.lt,zf h.there hb h.lt,zj h.orow hb,zK h.erow hb,by obtain ⟨xp,hc⟩:=h.box; exact ⟨xp,(hb.block N h.lt).trans hc⟩,yK h.le hb.size⟩
def meas (N:Nat) (W:World):Nat:=(match W.cell? (J N 1) with | some (.slice _ n _)=>2 * n | _=>0) + (match W.cell? (J N 5) with | some (.int _ n)=>if 0 < n then 1 else 0 | _=>0)
theorem meas_eq {N B:Nat} {W:World} {next:Int} {vq:Value} {l:List Od} {t:Od} {vt:Value} {ts:List Ev} (h:MatS N B W next vq l t vt ts):meas N W = 2 * l.length + (if 0 < t.left then 1 else 0):=by
 have z:W.cell? (J N 1) = some vq:=h.cells 1 _ rfl
 have h5:W.cell? (J N 5) = some (H t.left):=h.cells 5 _ rfl
 have hq:∃ a c,vq = .slice a l.length c:=by
  rcases h.orow.2 with ⟨e,e2⟩ | ⟨g,F,xp,e,_⟩
  ·exact ⟨none,0,by rw [e,e2]⟩
  ·exact ⟨_,_,e⟩
 obtain ⟨a,c,rfl⟩:=hq
 rw [meas,z,h5]
theorem match_end {w W3 W8:World} {N:Nat} {next:Int} {vq vt:Value} {l:List Od} {t:Od} {ts:List Ev} (hM:MatS N W3.heap.size W8 next vq l t vt ts) (hK:KeptBut N W3.heap.size W3 W8) (hb:yl w W3) (hs:W3.heap.size = w.heap.size + 1 + 1 + 1) (hm:W3.heap.size ≤ N) (vs:List Value) (hv:vs.length = 9) (ht:W8.there (w.heap.size + 1 + 1) 0 9) :
  (W8.setCells (w.heap.size + 1 + 1) 0 vs).rangeAt (w.heap.size + 1 + 1) 0 vs∧ORow (W8.setCells (w.heap.size + 1 + 1) 0 vs) w.heap.size vq l∧ERow (W8.setCells (w.heap.size + 1 + 1) 0 vs) w.heap.size vt ts∧yl w (W8.setCells (w.heap.size + 1 + 1) 0 vs):=by
 have hb8:yl w W8:=⟨hK.os.trans hb.os,hK.tape.trans hb.tape,hK.output.trans hb.output,yK hb.size hK.size,fun k hk=>(hK.block k (by omega) (by omega)).trans (hb.block k hk)⟩
 have ji:yl w (W8.setCells (w.heap.size + 1 + 1) 0 vs):=zu (w.heap.size + 1 + 1) (by omega) vs 0 W8 hb8
 have ut:W8.grownBy (W8.setCells (w.heap.size + 1 + 1) 0 vs) (some (w.heap.size + 1 + 1)):=by
  have h9:∀ (us:List Value) (o:Nat) (qt:World),qt.grownBy (qt.setCells (w.heap.size + 1 + 1) o us) (some (w.heap.size + 1 + 1)):=by
   intro us
   induction us with
   | nil=>intro o qt; exact ⟨rfl,rfl,rfl,Nat.le_refl _,fun _ _ _=>rfl⟩
   | cons u r ih =>
    intro o qt
    have z:qt.grownBy (qt.setCell (J (w.heap.size + 1 + 1) o) u) (some (w.heap.size + 1 + 1)):=⟨rfl,rfl,rfl,by simp [World.setCell],fun k _ hk=>yP _ _ _ _ (fun e=>hk (by rw [e]))⟩
    exact z.trans (ih (o + 1) _)
  exact h9 vs 0 W8
 have n4:∀ v:Value,(∀ g,v.ownBlock = some g→W3.heap.size ≤ g)→v.ownBlock = none ∨ v.ownBlock ≠ some (w.heap.size + 1 + 1):=fun v hv=>.inr (fun e=>by have:=hv _ e; omega)
 exact ⟨yU W8 _ 0 vs (fun j L=>ht j (by omega)),bV (hM.orow.kept ut (n4 vq (fun g hg=>(hM.orow.lt g hg).1))) (by omega),bV (hM.erow.kept ut (n4 vt (fun g hg=>(hM.erow.lt g hg).1))) (by omega),ji⟩
def SdV (V:World) (v:Value) (l:List Od) (sd:Int):Prop:=(sd = 1∧∃ b,v = aU b∧aC 176 true V b 1 (zn l 1)) ∨ (¬ sd = 1∧∃ b,v = aV b∧aC 179 false V b sd (zn l sd))
def FrV (V:World) (v:Value) (l:List Od) (sd:Int):Prop:=(sd = 1∧∃ b,v = .func (.func 122) #[I b 0] #[]∧aC 176 true V b 1 (zn l 1)) ∨ (¬ sd = 1∧∃ b,v = .func (.func 126) #[I b 0] #[]∧aC 179 false V b sd (zn l sd))
theorem field0_bm (b:Nat) (W:World):Sem.run Tryz.prog (Instr.field 81 (aU b) 0) W = .ok (.func (.func 122) #[I b 0] #[]) W:=by kernel_rfl
theorem field0_sm (b:Nat) (W:World):Sem.run Tryz.prog (Instr.field 81 (aV b) 0) W = .ok (.func (.func 126) #[I b 0] #[]) W:=by kernel_rfl
def DQ (N b3:Nat) (base:World) (BV:Value) (s sd:Int) (l:List Od) (x:Od) (fb:Bool) (p:Prop) (V:World):Nat→Value→Prop
 | 0,v=>v = I N 0
 | 1,v=>v = BV
 | 2,v=>v = I b3 0
 | 3,v=>v = H s
 | 4,v=>v = H sd
 | 5,v=>¬ p→SdV V v l sd
 | 6,v=>¬ p→FrV V v l sd
 | 7,v=>v = .tuple #[.agg (yt x.id x.side x.ticks x.left x.life x.tag).toArray,.bool fb]
 | 8,v=>v = .tuple #[.agg (yt x.id x.side x.ticks x.left x.life x.tag).toArray,.bool fb]
 | 9,v=>v = .agg (yt x.id x.side x.ticks x.left x.life x.tag).toArray
 | 10,v=>v = .bool fb
 | 11,v=>∃ pb,v = I pb 0∧base.heap.size ≤ pb∧(¬ p→V.there pb 0 6∧pb < V.heap.size)∧(p→V.rangeAt pb 0 x.vs∧pb < V.heap.size)
 | 13,v=>v = .bool fb
 | _,_=>True
section
variable {N b3:Nat} {base V V':World} {BV:Value} {s sd:Int} {l:List Od} {x:Od} {fb:Bool} {p:Prop}
theorem dq_grow (hp:¬ p) (hb:yl V V'):∀ j v,DQ N b3 base BV s sd l x fb p V j v→DQ N b3 base BV s sd l x fb p V' j v:=by
 intro j v h
 match j with
 | 0 | 1 | 2 | 3 | 4 | 7 | 8 | 9 | 10 | 13=>exact h
 | 5 =>
  intro hp
  rcases h hp with ⟨z,b,K,h3⟩ | ⟨z,b,K,h3⟩
  ·exact .inl ⟨z,b,K,zt h3 (hb.block _ (zJ h3))⟩
  ·exact .inr ⟨z,b,K,zt h3 (hb.block _ (zJ h3))⟩
 | 6 =>
  intro hp
  rcases h hp with ⟨z,b,K,h3⟩ | ⟨z,b,K,h3⟩
  ·exact .inl ⟨z,b,K,zt h3 (hb.block _ (zJ h3))⟩
  ·exact .inr ⟨z,b,K,zt h3 (hb.block _ (zJ h3))⟩
 | 11 =>
  obtain ⟨pb,z,K,h3,h4⟩:=h
  refine ⟨pb,z,K,fun hp=>?_,fun h=>absurd h hp⟩
  obtain ⟨h5,h6⟩:=h3 hp
  exact ⟨zf h5 hb h6,yG h6 hb.size⟩
 | 12=>trivial
 | j + 14=>trivial
theorem dq_last {v:Value}:∀ j,j ≠ 12→DQ N b3 base BV s sd l x fb False V j v→(j = 11→DQ N b3 base BV s sd l x fb True V' 11 v)→DQ N b3 base BV s sd l x fb True V' j v:=by
 intro j L h uL
 match j with
 | 0 | 1 | 2 | 3 | 4 | 7 | 8 | 9 | 10 | 13=>exact h
 | 5=>exact fun hp=>absurd trivial hp
 | 6=>exact fun hp=>absurd trivial hp
 | 11=>exact uL rfl
 | 12=>trivial
 | j + 14=>trivial
end
def backC:Nat→List Oper→Bool
 | _,[]=>true
 | i,o :: r=>o.after.toList.all (fun e=>!Region.binds .any e || decide (e.on < i)) && backC (i + 1) r
theorem backC_spec:∀ (l:List Oper) (n:Nat),backC n l = true→∀ (i:Nat) (o:Oper),l[i]? = some o→∀ e ∈ o.after,Region.binds .any e = true→e.on < n + i
 | [],_,_,i,o,h,_,_,_=>by simp at h
 | a :: r,n,hb,0,o,h,e,he,hbd=>by
  simp at h; subst h
  simp only [backC,xb,List.all_eq_true] at hb
  have:=hb.1 e (by simpa using he)
  rw [hbd] at this
  simpa using this
 | a :: r,n,hb,i + 1,o,h,e,he,hbd=>by
  simp only [backC,xb] at hb
  have:=backC_spec r (n + 1) hb.2 i o (by simpa using h) e he hbd
  omega
theorem zL {l:List Oper} {x:List Bool} (h:Region.ready .any l.toArray x.toArray = []) (hx:x.length = l.length) (hb:backC 0 l = true):∀ i,i < l.length→x[i]? = some true:=by
 intro i
 induction i using Nat.strongRecOn with
 | _ i ih =>
  intro hi
  refine bT h hx i l[i] (yE hi) fun e he hbd=>?_
  have:=backC_spec l 0 hb i l[i] (yE hi) e he hbd
  exact ih e.on (by omega) (by omega)
end Go.Proofs.YtbakanofkghmiaaGreat
