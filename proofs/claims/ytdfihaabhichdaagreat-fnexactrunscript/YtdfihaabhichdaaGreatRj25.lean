/-
  What is left of a taker put behind the others, and what of memory it takes: proved by walking the method.
-/
import Derived.Test.YtdfihaabhichdaaGreatRj09
import Derived.Test.YtdfihaabhichdaaGreatRj14
import Derived.Test.YtdfihaabhichdaaGreatRj20
import Derived.Test.YtdfihaabhichdaaGreatRj22
namespace Go.Proofs.YtdfihaabhichdaaGreat
open Go.RowKit
set_option linter.unusedVariables false

set_option maxRecDepth 100000 in
set_option maxHeartbeats 3200000 in
theorem rest_took (mb B:Nat) (next:Int) (vq:Value) (l:List Od) (t:Od) (vt:Value) (ts:List Ev) (w:World) (h:MatS mb B w next vq l t vt ts) (hn:l.length ≤ 1000) :
  Calls Tryz.prog 120 #[.pointer (some ⟨mb,0,none⟩)] w fun e w'=>∃ vq',e = .returned (.tuple #[])∧MatS mb B w' next vq' (l ++ [t]) t vt ts∧TookAt mb 0 vq.ownBlock w w':=by
 have HM:=hide h
 have hmw:=h.lt
 have hBw:=h.le
 have hnq:=h.nq
 have HBX:=hide h.box
 have HORO:=hide h.orow
 have hM:=hide h.cells
 have HM1:Hid (w.cell? ⟨mb,1,none⟩ = some vq):=za hM 1 _ rfl
 have HF1:Hid (w.frozen? ⟨mb,1,none⟩ = false):=by have:=(h.there 1 (by omega)).2; rwa [Nat.zero_add] at this
 clear h
 obtain ⟨i0,hi0,hz0,hz1,hz2⟩:=info_parts Tryz.infoOrder
 go_enter Tryz.func120,Tryz.ntmps120
 go_wp2_with fail
 refine zj (RT (fun V=>Below w.heap.size w V) (fun f=>{ tmps:=#[.pointer (some ⟨mb,0,none⟩),undef,f 0,f 1,f 2,f 3,f 4,f 5,f 6,f 7,f 8,f 9,f 10,f 11,f 12,f 13,f 14],defers:=[] }) 11 15 (DR mb B w vq l t)) (by kernel_rfl) ?_ ?_ ?_
 ·exact ⟨fun _=>undef,rfl,fun _=>⟨rfl,rfl,rfl,Nat.le_refl _,fun _ _=>rfl⟩,fun j hj=>by rw [List.getElem?_replicate] at hj; split at hj <;> simp at hj⟩
 ·rintro x A V ⟨f,rfl,-,hD⟩ hx hrd
  have hallx:=zY hrd hx (acyc _ (by kernel_rfl))
  have k11:x[11]? = some true:=hallx 11 (by simp)
  have k15:x[15]? = some true:=hallx 15 (by simp)
  obtain ⟨va,vc,-,-,-,hfin⟩:=hD 11 k11
  obtain ⟨q1,q2,q3⟩:=hfin k15
  have HFIN:Hid (_∧_∧_):=⟨q1,q2,q3⟩
  clear hD hallx hrd hx k11 k15 hfin q1 q2 q3
  dsimp only
  go_wp2_with fail
  go_end0
  exact ⟨_,rfl,matS_took (za HM) (za HFIN).2.2 (za HFIN).1 (za HFIN).2.1,(za HFIN).2.2⟩
 ·rintro x A V i op ⟨f,rfl,hbs,hD⟩ hcl hx ho hxi hall
  have HBS:=hide hbs
  have HD:=hide hD
  have cellV:∀ b o u,w.cell? ⟨b,o,none⟩ = some u→¬ x[11]? = some true→V.cell? ⟨b,o,none⟩ = some u:=fun b o u hu hn11=>((za HBS hn11).cell (p:=⟨b,o,none⟩) (World.block_lt_of_cell? w _ hu)).trans hu
  have n11':i < 11→0 < i→¬ x[11]? = some true:=fun hlt hpos h11=>by
   have h5:=hcl 11 _ rfl h11 ⟨5,.data⟩ (by simp) rfl
   have h10:=hcl 11 _ rfl h11 ⟨10,.data⟩ (by simp) rfl
   have h4:=hcl 5 _ rfl h5 ⟨4,.data⟩ (by simp) rfl
   have h9:=hcl 10 _ rfl h10 ⟨9,.data⟩ (by simp) rfl
   have h3:=hcl 4 _ rfl h4 ⟨3,.data⟩ (by simp) rfl
   have h8:=hcl 9 _ rfl h9 ⟨8,.data⟩ (by simp) rfl
   have h2:=hcl 3 _ rfl h3 ⟨2,.data⟩ (by simp) rfl
   have h7:=hcl 8 _ rfl h8 ⟨7,.data⟩ (by simp) rfl
   have h1:=hcl 2 _ rfl h2 ⟨1,.data⟩ (by simp) rfl
   have h6:=hcl 7 _ rfl h7 ⟨6,.data⟩ (by simp) rfl
   have hallk:∀ j,0 < j→j < 11→x[j]? = some true:=fun j hj0 hj=>by
    rcases (by omega:j = 1 ∨ j = 2 ∨ j = 3 ∨ j = 4 ∨ j = 5 ∨ j = 6 ∨ j = 7 ∨ j = 8 ∨ j = 9 ∨ j = 10) with rfl | rfl | rfl | rfl | rfl | rfl | rfl | rfl | rfl | rfl <;> assumption
   rw [hallk i hpos hlt] at hxi; cases hxi
  have n15':i < 15→¬ x[15]? = some true:=fun hlt h15=>by
   have h14:=hcl 15 _ rfl h15 ⟨14,.data⟩ (by simp) rfl
   have h11:=hcl 15 _ rfl h15 ⟨11,.data⟩ (by simp) rfl
   have h13:=hcl 14 _ rfl h14 ⟨13,.data⟩ (by simp) rfl
   have h5:=hcl 11 _ rfl h11 ⟨5,.data⟩ (by simp) rfl
   have h10:=hcl 11 _ rfl h11 ⟨10,.data⟩ (by simp) rfl
   have h12:=hcl 13 _ rfl h13 ⟨12,.data⟩ (by simp) rfl
   have h4:=hcl 5 _ rfl h5 ⟨4,.data⟩ (by simp) rfl
   have h9:=hcl 10 _ rfl h10 ⟨9,.data⟩ (by simp) rfl
   have h0:=hcl 12 _ rfl h12 ⟨0,.data⟩ (by simp) rfl
   have h3:=hcl 4 _ rfl h4 ⟨3,.data⟩ (by simp) rfl
   have h8:=hcl 9 _ rfl h9 ⟨8,.data⟩ (by simp) rfl
   have h2:=hcl 3 _ rfl h3 ⟨2,.data⟩ (by simp) rfl
   have h7:=hcl 8 _ rfl h8 ⟨7,.data⟩ (by simp) rfl
   have h1:=hcl 2 _ rfl h2 ⟨1,.data⟩ (by simp) rfl
   have h6:=hcl 7 _ rfl h7 ⟨6,.data⟩ (by simp) rfl
   have hallk:∀ j,j < 15→x[j]? = some true:=fun j hj=>by
    rcases (by omega:j = 0 ∨ j = 1 ∨ j = 2 ∨ j = 3 ∨ j = 4 ∨ j = 5 ∨ j = 6 ∨ j = 7 ∨ j = 8 ∨ j = 9 ∨ j = 10 ∨ j = 11 ∨ j = 12 ∨ j = 13 ∨ j = 14) with rfl | rfl | rfl | rfl | rfl | rfl | rfl | rfl | rfl | rfl | rfl | rfl | rfl | rfl | rfl <;> assumption
   rw [hallk i hlt] at hxi; cases hxi
  clear hcl hbs
  match i,ho with
  | 0,ho =>
   obtain rfl:=Option.some.inj ho
   clear hall hD
   rw [if_pos (by rfl)]
   unfold Oper.wp
   go_simp
   exact ⟨upd f 0 (.pointer (some ⟨mb,0,none⟩)),by simp [upd],zx (za HD) (by decide) (by decide) (fun _ _ h=>h) (za HBS) rfl⟩
  | 1,ho =>
   obtain rfl:=Option.some.inj ho
   clear hall hD
   rw [if_pos (by rfl)]
   unfold Oper.wp
   go_simp
   exact ⟨upd f 1 (.pointer (some ⟨mb,0,none⟩)),by simp [upd],zx (za HD) (by decide) (by decide) (fun _ _ h=>h) (za HBS) rfl⟩
  | 2,ho =>
   obtain rfl:=Option.some.inj ho
   have g:f 1 = .pointer (some ⟨mb,0,none⟩):=hD 1 (hall ⟨1,.data⟩ (by simp) rfl)
   clear hall hD
   rw [if_pos (by rfl)]
   unfold Oper.wp
   go_simp
   exact ⟨upd f 2 (.pointer (some ⟨mb,0,none⟩)),by simp [upd,g],zx (za HD) (by decide) (by decide) (fun _ _ h=>h) (za HBS) rfl⟩
  | 3,ho =>
   obtain rfl:=Option.some.inj ho
   have g:f 2 = .pointer (some ⟨mb,0,none⟩):=hD 2 (hall ⟨2,.data⟩ (by simp) rfl)
   clear hall hD
   rw [if_pos (by rfl)]
   unfold Oper.wp
   go_simp
   exact ⟨upd f 3 (.pointer (some ⟨mb,0,none⟩)),by simp [upd,g],zx (za HD) (by decide) (by decide) (fun _ _ h=>h) (za HBS) rfl⟩
  | 4,ho =>
   obtain rfl:=Option.some.inj ho
   have g:f 3 = .pointer (some ⟨mb,0,none⟩):=hD 3 (hall ⟨3,.data⟩ (by simp) rfl)
   clear hall hD
   rw [if_pos (by rfl)]
   unfold Oper.wp
   go_simp
   exact ⟨upd f 4 (.pointer (some ⟨mb,1,none⟩)),by simp [upd,g],zx (za HD) (by decide) (by decide) (fun _ _ h=>h) (za HBS) rfl⟩
  | 5,ho =>
   obtain rfl:=Option.some.inj ho
   have g:f 4 = .pointer (some ⟨mb,1,none⟩):=hD 4 (hall ⟨4,.data⟩ (by simp) rfl)
   have n11:=n11' (by omega) (by omega)
   have y1:=cellV mb 1 _ (za HM1) n11
   clear hall hD
   rw [if_pos (by rfl)]
   unfold Oper.wp
   go_simp
   exact ⟨upd f 5 (vq),by simp [upd,g],zx (za HD) (by decide) (by decide) (fun _ _ h=>h) (za HBS) rfl⟩
  | 6,ho =>
   obtain rfl:=Option.some.inj ho
   clear hall hD
   rw [if_pos (by rfl)]
   unfold Oper.wp
   go_simp
   exact ⟨upd f 6 (.pointer (some ⟨mb,0,none⟩)),by simp [upd],zx (za HD) (by decide) (by decide) (fun _ _ h=>h) (za HBS) rfl⟩
  | 7,ho =>
   obtain rfl:=Option.some.inj ho
   have g:f 6 = .pointer (some ⟨mb,0,none⟩):=hD 6 (hall ⟨6,.data⟩ (by simp) rfl)
   clear hall hD
   rw [if_pos (by rfl)]
   unfold Oper.wp
   go_simp
   exact ⟨upd f 7 (.pointer (some ⟨mb,0,none⟩)),by simp [upd,g],zx (za HD) (by decide) (by decide) (fun _ _ h=>h) (za HBS) rfl⟩
  | 8,ho =>
   obtain rfl:=Option.some.inj ho
   have g:f 7 = .pointer (some ⟨mb,0,none⟩):=hD 7 (hall ⟨7,.data⟩ (by simp) rfl)
   clear hall hD
   rw [if_pos (by rfl)]
   unfold Oper.wp
   go_simp
   exact ⟨upd f 8 (.pointer (some ⟨mb,2,none⟩)),by simp [upd,g],zx (za HD) (by decide) (by decide) (fun _ _ h=>h) (za HBS) rfl⟩
  | 9,ho =>
   obtain rfl:=Option.some.inj ho
   have g:f 8 = .pointer (some ⟨mb,2,none⟩):=hD 8 (hall ⟨8,.data⟩ (by simp) rfl)
   have n11:=n11' (by omega) (by omega)
   have y2:=cellV mb 2 _ (za hM 2 _ rfl) n11
   have y3:=cellV mb 3 _ (za hM 3 _ rfl) n11
   have y4:=cellV mb 4 _ (za hM 4 _ rfl) n11
   have y5:=cellV mb 5 _ (za hM 5 _ rfl) n11
   have y6:=cellV mb 6 _ (za hM 6 _ rfl) n11
   have y7:=cellV mb 7 _ (za hM 7 _ rfl) n11
   clear hall hD
   rw [if_pos (by rfl)]
   unfold Oper.wp
   go_simp
   exact ⟨upd f 9 (.agg #[.int .i64 t.id,.int .i64 t.side,.int .i64 t.ticks,.int .i64 t.left,.int .i64 t.life,.string t.tag]),by simp [upd,g],zx (za HD) (by decide) (by decide) (fun _ _ h=>h) (za HBS) rfl⟩
  | 10,ho =>
   obtain rfl:=Option.some.inj ho
   have g:f 9 = .agg #[.int .i64 t.id,.int .i64 t.side,.int .i64 t.ticks,.int .i64 t.left,.int .i64 t.life,.string t.tag]:=hD 9 (hall ⟨9,.data⟩ (by simp) rfl)
   have n11:=n11' (by omega) (by omega)
   have hbV:=za HBS n11
   clear hall hD
   rw [if_pos (by rfl)]
   unfold Oper.wp
   go_simp
   refine ⟨upd f 10 (.slice (some ⟨V.heap.size,0,none⟩) 1 1),by simp [upd,g],zx (za HD) (by decide) (by decide) (dr_alloc n11) (fun _=>hbV.alloc hbV.size _) ⟨V.heap.size,rfl,fun _=>?_⟩⟩
   exact fun j u h=>zci V t.vs 100 j u h
  | 11,ho =>
   obtain rfl:=Option.some.inj ho
   have g5:f 5 = vq:=hD 5 (hall ⟨5,.data⟩ (by simp) rfl)
   obtain ⟨s,g10,hcs⟩:=hD 10 (hall ⟨10,.data⟩ (by simp) rfl)
   have n11:¬ x[11]? = some true:=by rw [hxi]; simp
   have n15:=n15' (by omega)
   have hbV:=za HBS n11
   have hrow:ORow V B vq l:=zm (za HORO) hbV
   rw [if_pos (by rfl)]
   refine wp_append_own V (.tmp 7) (.tmp 12) 30 rfl B 100 i0 _ 6 56 Tryz.underlying30 hi0 hz0 hz1 hz2 rfl (by decide) vq l.length (l.flatMap Od.vs) g5 hrow ⟨s,0,none⟩ 1 1 t.vs g10 rfl (hcs n11) (one_od t) (by unfold maxLen; omega) (by omega) (by have:=hbV.size; omega) ?_
   intro v' w' hown hgr _
   obtain ⟨ga,gc,rfl⟩:=zbI hown (by omega)
   refine ⟨upd f 11 (.slice (some ⟨ga,0,none⟩) (l.length + 1) gc),rfl,rt_one (by decide) (za HD) hxi n15 (fun j v hj h=>dr_one j v hj h) ⟨some ⟨ga,0,none⟩,gc,rfl,trivial,fun _=>⟨?_,?_⟩,fun h=>h.elim⟩⟩
   ·show World.ownsRow _ _ _ _ _ (l ++ [t]).length _
    rw [List.length_append,List.flatMap_append]; simpa using hown
   ·exact (zaa hbV (Nat.le_refl _)).trans hgr
  | 12,ho =>
   obtain rfl:=Option.some.inj ho
   have g:f 0 = .pointer (some ⟨mb,0,none⟩):=hD 0 (hall ⟨0,.data⟩ (by simp) rfl)
   clear hall hD
   rw [if_pos (by rfl)]
   unfold Oper.wp
   go_simp
   exact ⟨upd f 12 (.pointer (some ⟨mb,0,none⟩)),by simp [upd,g],zx (za HD) (by decide) (by decide) (fun _ _ h=>h) (za HBS) rfl⟩
  | 13,ho =>
   obtain rfl:=Option.some.inj ho
   have g:f 12 = .pointer (some ⟨mb,0,none⟩):=hD 12 (hall ⟨12,.data⟩ (by simp) rfl)
   clear hall hD
   rw [if_pos (by rfl)]
   unfold Oper.wp
   go_simp
   exact ⟨upd f 13 (.pointer (some ⟨mb,0,none⟩)),by simp [upd,g],zx (za HD) (by decide) (by decide) (fun _ _ h=>h) (za HBS) rfl⟩
  | 14,ho =>
   obtain rfl:=Option.some.inj ho
   have g:f 13 = .pointer (some ⟨mb,0,none⟩):=hD 13 (hall ⟨13,.data⟩ (by simp) rfl)
   clear hall hD
   rw [if_pos (by rfl)]
   unfold Oper.wp
   go_simp
   exact ⟨upd f 14 (.pointer (some ⟨mb,1,none⟩)),by simp [upd,g],zx (za HD) (by decide) (by decide) (fun _ _ h=>h) (za HBS) rfl⟩
  | 15,ho =>
   obtain rfl:=Option.some.inj ho
   have g14:f 14 = .pointer (some ⟨mb,1,none⟩):=hD 14 (hall ⟨14,.data⟩ (by simp) rfl)
   have k11:x[11]? = some true:=hall ⟨11,.data⟩ (by simp) rfl
   have n15:¬ x[15]? = some true:=by rw [hxi]; simp
   obtain ⟨ga,gc,g11,-,hfa,-⟩:=hD 11 k11
   obtain ⟨her,hgr⟩:=hfa n15
   have hmbV:some mb ≠ vq.ownBlock:=hnq
   have y1:=hgr.cell (za HM1) hmbV
   have f1:V.frozen? ⟨mb,1,none⟩ = false:=(World.frozen?_of_block (a:=⟨mb,1,none⟩) (hgr.block mb (by omega) hmbV)).trans (za HF1)
   have HER:=hide (g11 ▸ her)
   have HBXV:Hid (∃ cur,V.heap[mb]? = some (.cells cur 170 (0,0))):=by obtain ⟨cur,hc⟩:=za HBX; exact ⟨cur,(hgr.block mb (by omega) hmbV).trans hc⟩
   have HGR:=hide hgr
   clear hall hD her hgr hfa
   rw [if_pos (by rfl)]
   unfold Oper.wp
   go_simp
   refine ⟨upd f 15 undef,by simp [upd,g14,g11],rt_two (by decide) (za HD) k11 hxi (fun j hj hxj h=>dr_two j hj h (fun hj11=>?_)) trivial⟩
   subst hj11
   obtain ⟨-,-,-,-,-,-⟩:=h
   refine ⟨ga,gc,g11,trivial,fun h=>absurd trivial h,fun _=>?_⟩
   rw [g11]
   refine ⟨World.cell?_setCell_same _ _ _ y1,zt (za HER) (zl (za HER) (za HBXV) (by decide)) 1 _,?_⟩
   exact zaq (zah (za HGR) (by omega) hmbV) (zbN (o:=0) _ _)
  | i + 16,ho=>simp at ho
end Go.Proofs.YtdfihaabhichdaaGreat
namespace Go.Proofs.YtdfihaabhichdaaGreat
open Go.RowKit
set_option linter.unusedVariables false

theorem gqY {x:List Bool} {i j:Nat} (h:i ≠ j):(x.set i true)[j]? = x[j]?:=List.getElem?_set_ne h
theorem gqsY {x:List Bool} {i:Nat} (h:x[i]? = some false):(x.set i true)[i]? = some true:=List.getElem?_set_self (List.getElem?_eq_some_iff.1 h).1
def ancS (l:List Oper) (s:List Nat):List Nat:=s ++ s.flatMap fun i=>match l[i]? with
  | some o=>(o.after.toList.filter fun e=>Region.binds .any e).map fun e=>e.on
  | none=>[]
def ancN (l:List Oper):Nat→List Nat→List Nat
  | 0,s=>s
  | n + 1,s=>ancN l n (ancS l s).eraseDups
theorem ancS_true {l:List Oper} {x:List Bool} (hc:Closed l x) {s:List Nat} (hs:∀ i ∈ s,x[i]? = some true):∀ i ∈ ancS l s,x[i]? = some true:=by
  intro i hi
  rcases List.mem_append.1 hi with h | h
  · exact hs i h
  · obtain ⟨k,hk,hm⟩:=List.mem_flatMap.1 h
    split at hm
    · next o ho =>
      obtain ⟨e,he,rfl⟩:=List.mem_map.1 hm
      obtain ⟨he1,he2⟩:=List.mem_filter.1 he
      exact hc k o ho (hs k hk) e (by simpa using he1) he2
    · simp at hm
theorem ancN_true {l:List Oper} {x:List Bool} (hc:Closed l x):∀ (n:Nat) (s:List Nat),(∀ i ∈ s,x[i]? = some true)→∀ i ∈ ancN l n s,x[i]? = some true
  | 0,s,hs=>hs
  | n + 1,s,hs=>ancN_true hc n _ (fun i hi=>ancS_true hc hs i (List.mem_eraseDups.1 hi))
theorem zy {l:List Oper} {x:List Bool} (hc:Closed l x) (d i n:Nat) (hB:(ancN l d [n]).contains i = true) (hx:x.length = l.length) (hn:n < l.length) (hi:x[i]? = some false):x[n]? = some false:=by
  rcases zbQ hx hn with h | h
  · exact h
  · have:=ancN_true hc d [n] (by simpa using h) i (by simpa using hB)
    rw [hi] at this; cases this
structure RY (C:World→Nat→Value→Prop) (n:Nat) (Q:(Nat→Value)→World→Prop) (base:World) (x:List Bool) (f:Nat→Value) (W:World):Prop where
  b:x[n]? = some false→Below base.heap.size base W
  c:x[n]? = some false→∀ j,x[j]? = some true→C W j (f j)
  m:x[n]? = some true→Q f W
def RYA (F:(Nat→Value)→Act) (C:World→Nat→Value→Prop) (n:Nat) (Q:(Nat→Value)→World→Prop) (base:World) (x:List Bool) (A:Act) (W:World):Prop:=∃ f,A = F f∧RY C n Q base x f W
section
variable {C:World→Nat→Value→Prop} {n:Nat} {Q:(Nat→Value)→World→Prop} {base W W':World} {x:List Bool} {f:Nat→Value}
theorem ry_start {k:Nat} {f:Nat→Value} (hk:n < k):RY C n Q base (List.replicate k false) f { base with drawn:=base.drawn + 1 } :=
  ⟨fun _=>⟨rfl,rfl,rfl,Nat.le_refl _,fun _ _=>rfl⟩,fun _ j hj=>by rw [List.getElem?_replicate] at hj; split at hj <;> simp at hj,fun h=>by rw [List.getElem?_replicate] at h; split at h <;> simp at h⟩
theorem zX (h:RY C n Q base x f W) (i:Nat) (v:Value) (hn:x[n]? = some false) (hin:i ≠ n) (hv:C W i v):RY C n Q base (x.set i true) (upd f i v) W:=by
  refine ⟨fun _=>h.b hn,fun _ j hj=>?_,fun e=>by rw [gqY hin,hn] at e; cases e⟩
  by_cases hji:j = i
  · subst hji; rw [zp]; exact hv
  · rw [zq _ _ hji]; rw [gqY (fun e=>hji e.symm)] at hj; exact h.c hn j hj
theorem ry_grow (hm:∀ W W' j v,Below W.heap.size W W'→C W j v→C W' j v) (h:RY C n Q base x f W) (hn:x[n]? = some false) (hb:Below W.heap.size W W'):RY C n Q base x f W' :=
  ⟨fun _=>(h.b hn).trans (hb.mono (h.b hn).size),fun _ j hj=>hm _ _ _ _ hb (h.c hn j hj),fun e=>by rw [hn] at e; cases e⟩
theorem ry_write (h:RY C n Q base x f W) (hn:x[n]? = some false) (v:Value) (hq:Q (upd f n v) W'):RY C n Q base (x.set n true) (upd f n v) W' :=
  ⟨fun e=>(by rw [gqsY hn] at e; cases e),fun e=>(by rw [gqsY hn] at e; cases e),fun _=>hq⟩
theorem ry_writeN (h:RY C n Q base x f W) (hn:x[n]? = some false) (hq:Q f W'):RY C n Q base (x.set n true) f W' :=
  ⟨fun e=>(by rw [gqsY hn] at e; cases e),fun e=>(by rw [gqsY hn] at e; cases e),fun _=>hq⟩
theorem ry_after (h:RY C n Q base x f W) (i:Nat) (v:Value) (hn:x[n]? = some true) (hin:i ≠ n) (hq:Q f W→Q (upd f i v) W):RY C n Q base (x.set i true) (upd f i v) W :=
  ⟨fun e=>(by rw [gqY hin,hn] at e; cases e),fun e=>(by rw [gqY hin,hn] at e; cases e),fun _=>hq (h.m hn)⟩
end
end Go.Proofs.YtdfihaabhichdaaGreat
namespace Go.Proofs.YtdfihaabhichdaaGreat
open Go.RowKit
set_option linter.unusedVariables false

def KB (R:Nat) (W W':World):Prop:=KeptBut R W.heap.size W W'
theorem kb_trans {R:Nat} {W W1 W2:World} (h1:KB R W W1) (h2:KB R W1 W2):KB R W W2 :=
 ⟨h2.os.trans h1.os,h2.tape.trans h1.tape,h2.output.trans h1.output,Nat.le_trans h1.size h2.size,fun k hk hm=>(h2.block k (Nat.lt_of_lt_of_le hk h1.size) hm).trans (h1.block k hk hm)⟩
theorem kb_below {R:Nat} {W W':World} (h:Below W.heap.size W W'):KB R W W':=⟨h.os,h.tape,h.output,h.size,fun k hk _=>h.block k hk⟩
theorem kb_setCells (R o:Nat) (vs:List Value) (W:World):KB R W (W.setCells R o vs) :=
 ⟨zcq _ _ _ _,zbM _ _ _ _,zbr _ _ _ _,by rw [zv]; exact Nat.le_refl _,fun k _ hm=>zaw _ _ hm _ _ _⟩
theorem kb_row {R B e sz n:Nat} {v:Value} {xs:List Value} {W W':World} (h:W.ownsRow B e sz v n xs) (hb:KB R W W') (hR:R < B):W'.ownsRow B e sz v n xs:=by
 refine ⟨h.1,?_⟩
 rcases h.2 with hn | ⟨g,cap,cur,rfl,hg,hgg,rest⟩
 ·exact .inl hn
 ·exact .inr ⟨g,cap,cur,rfl,hg,(hb.block g (Array.getElem?_eq_some_iff.1 hgg).1 (by omega)).trans hgg,rest⟩
theorem kb_cell {R:Nat} {W W':World} (hb:KB R W W') {p:Addr} {u:Value} (h:W.cell? p = some u) (hp:p.block ≠ R):W'.cell? p = some u :=
 (World.cell?_of_block (a:=p) (hb.block p.block (World.block_lt_of_cell? W _ h) hp)).trans h
theorem kb_range {R:Nat} {W W':World} (hb:KB R W W') {b o:Nat} {cs:List Value} (h:W.rangeAt b o cs) (hp:b ≠ R):W'.rangeAt b o cs:=fun j u hj=>kb_cell hb (h j u hj) hp
structure RX (C:World→Nat→Value→Prop) (R m st:Nat) (Rv:(Nat→Value)→List Value) (base:World) (x:List Bool) (f:Nat→Value) (W:World):Prop where
 k:KB R base W
 lt:R < base.heap.size
 t:W.there R 0 m
 c:∀ j,x[j]? = some true→C W j (f j)
 r:x[st]? = some true→W.rangeAt R 0 (Rv f)
def RXA (F:(Nat→Value)→Act) (C:World→Nat→Value→Prop) (R m st:Nat) (Rv:(Nat→Value)→List Value) (base:World) (x:List Bool) (A:Act) (W:World):Prop:=∃ f,A = F f∧RX C R m st Rv base x f W
section
variable {C:World→Nat→Value→Prop} {R m st:Nat} {Rv:(Nat→Value)→List Value} {base W W':World} {x:List Bool} {f:Nat→Value}
theorem rx_start {k:Nat} {f:Nat→Value} (hl:R < base.heap.size) (ht:base.there R 0 m):RX C R m st Rv base (List.replicate k false) f { base with drawn:=base.drawn + 1 } :=
 ⟨⟨rfl,rfl,rfl,Nat.le_refl _,fun _ _ _=>rfl⟩,hl,ht,fun j hj=>by rw [List.getElem?_replicate] at hj; split at hj <;> simp at hj,fun h=>by rw [List.getElem?_replicate] at h; split at h <;> simp at h⟩
theorem zad (h:RX C R m st Rv base x f W) (i:Nat) (v:Value) (his:i ≠ st) (hr:x[st]? = some true→Rv (upd f i v) = Rv f) (hv:C W i v):RX C R m st Rv base (x.set i true) (upd f i v) W:=by
 refine ⟨h.k,h.lt,h.t,fun j hj=>?_,fun e=>?_⟩
 ·by_cases hji:j = i
  ·subst hji; rw [zp]; exact hv
  ·rw [zq _ _ hji]; rw [gq (fun e=>hji e.symm)] at hj; exact h.c j hj
 ·rw [gq his] at e; rw [hr e]; exact h.r e
theorem rx_grow (hm:∀ W W' j v,KB R W W'→C W j v→C W' j v) (h:RX C R m st Rv base x f W) (hb:Below W.heap.size W W'):RX C R m st Rv base x f W' :=
 ⟨kb_trans h.k (kb_below hb),h.lt,zd h.t hb (Nat.lt_of_lt_of_le h.lt h.k.size),fun j hj=>hm _ _ _ _ (kb_below hb) (h.c j hj),fun e=>zb (h.r e) hb (Nat.lt_of_lt_of_le h.lt h.k.size)⟩
theorem rx_store (hm:∀ W W' j v,KB R W W'→C W j v→C W' j v) (h:RX C R m st Rv base x f W) (hx:x[st]? = some false) (hl:(Rv f).length = m) (hC:∀ W v,C W st v):RX C R m st Rv base (x.set st true) f (W.setCells R 0 (Rv f)):=by
 refine ⟨kb_trans h.k (kb_setCells _ _ _ _),h.lt,World.there_setCells h.t _ _ _,fun j hj=>?_,fun _=>World.rangeAt_setCells_same W R 0 _ (fun j hj=>h.t j (by omega))⟩
 by_cases hji:j = st
 ·subst hji; exact hC _ _
 ·rw [gq (fun e=>hji e.symm)] at hj; exact hm _ _ _ _ (kb_setCells _ _ _ _) (h.c j hj)
end
end Go.Proofs.YtdfihaabhichdaaGreat
