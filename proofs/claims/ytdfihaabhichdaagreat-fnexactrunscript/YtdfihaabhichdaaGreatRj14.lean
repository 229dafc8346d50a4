/-
  What is left of the taker laid behind the others, by the program: proved by walking the method.
-/
import Derived.Test.YtdfihaabhichdaaGreatRj09
import Derived.Test.YtdfihaabhichdaaGreatRj13
namespace Go.Proofs.YtdfihaabhichdaaGreat
open Go.RowKit
set_option linter.unusedVariables false

theorem one_od (o:Od):∀ u ∈ o.vs,u.oneCell' = true:=by
 intro u hu
 simp [Od.vs] at hu
 rcases hu with rfl | rfl | rfl | rfl | rfl | rfl <;> rfl
def DR (mb B:Nat) (W0:World) (vq:Value) (l:List Od) (t:Od) (p q:Prop) (V:World):Nat→Value→Prop
 | 0,v=>v = .pointer (some ⟨mb,0,none⟩)
 | 1,v=>v = .pointer (some ⟨mb,0,none⟩)
 | 2,v=>v = .pointer (some ⟨mb,0,none⟩)
 | 3,v=>v = .pointer (some ⟨mb,0,none⟩)
 | 4,v=>v = .pointer (some ⟨mb,1,none⟩)
 | 5,v=>v = vq
 | 6,v=>v = .pointer (some ⟨mb,0,none⟩)
 | 7,v=>v = .pointer (some ⟨mb,0,none⟩)
 | 8,v=>v = .pointer (some ⟨mb,2,none⟩)
 | 9,v=>v = .agg #[.int .i64 t.id,.int .i64 t.side,.int .i64 t.ticks,.int .i64 t.left,.int .i64 t.life,.string t.tag]
 | 10,v=>∃ s,v = .slice (some ⟨s,0,none⟩) 1 1∧(¬ p→∀ j u,t.vs[j]? = some u→V.cell? ((⟨s,0,none⟩:Addr).add j) = some u)
 | 11,v=>∃ a c,v = .slice a (l.length + 1) c∧p∧(¬ q→ORow V B v (l ++ [t])∧W0.grownBy V vq.ownBlock)∧(q→V.cell? ⟨mb,1,none⟩ = some v∧ORow V B v (l ++ [t])∧TookAt mb 0 vq.ownBlock W0 V)
 | 12,v=>v = .pointer (some ⟨mb,0,none⟩)
 | 13,v=>v = .pointer (some ⟨mb,0,none⟩)
 | 14,v=>v = .pointer (some ⟨mb,1,none⟩)
 | _,_=>True
section
variable {mb B:Nat} {W0 V V':World} {vq:Value} {l:List Od} {t:Od} {p q:Prop}
theorem dr_alloc {o:Obj} (hp:¬ p):∀ j v,DR mb B W0 vq l t p q V j v→DR mb B W0 vq l t p q (V.alloc o) j v:=by
 intro j v h
 match j with
 | 0 | 1 | 2 | 3 | 4 | 5 | 6 | 7 | 8 | 9 | 12 | 13 | 14=>exact h
 | 10 =>
  obtain ⟨s,h1,h2⟩:=h
  exact ⟨s,h1,fun hp j u hu=>(World.cell?_alloc_lt _ _ _ (World.block_lt_of_cell? V _ (h2 hp j u hu))).trans (h2 hp j u hu)⟩
 | 11=>obtain ⟨_,_,_,h2,_⟩:=h; exact absurd h2 hp
 | j + 15=>trivial
theorem dr_one:∀ j v,j ≠ 11→DR mb B W0 vq l t False False V j v→DR mb B W0 vq l t True False V' j v:=by
 intro j v hj h
 match j with
 | 0 | 1 | 2 | 3 | 4 | 5 | 6 | 7 | 8 | 9 | 12 | 13 | 14=>exact h
 | 10 =>
  obtain ⟨s,h1,h2⟩:=h
  exact ⟨s,h1,fun hp=>absurd trivial hp⟩
 | 11=>exact absurd rfl hj
 | j + 15=>trivial
theorem dr_two {v:Value}:∀ j,j ≠ 15→DR mb B W0 vq l t True False V j v→(j = 11→DR mb B W0 vq l t True True V' 11 v)→DR mb B W0 vq l t True True V' j v:=by
 intro j hj h h11
 match j with
 | 0 | 1 | 2 | 3 | 4 | 5 | 6 | 7 | 8 | 9 | 12 | 13 | 14=>exact h
 | 10 =>
  obtain ⟨s,h1,h2⟩:=h
  exact ⟨s,h1,fun hp=>absurd trivial hp⟩
 | 11=>exact h11 rfl
 | j + 15=>trivial
end
theorem matS_took {mb B:Nat} {W w':World} {next:Int} {vq vq':Value} {l l':List Od} {t:Od} {vt:Value} {ts:List Ev} (h:MatS mb B W next vq l t vt ts) (ht:TookAt mb 0 vq.ownBlock W w') (hc:w'.cell? ⟨mb,1,none⟩ = some vq') (ho:ORow w' B vq' l'):MatS mb B w' next vq' l' t vt ts:=by
 have hcell:∀ j,j ≠ 1→w'.cell? ⟨mb,j,none⟩ = W.cell? ⟨mb,j,none⟩:=fun j h1=>ht.cell j (by omega)
 refine ⟨?_,fun j hj=>⟨?_,?_⟩,ho,zal h.erow ht h.nt (zz h.erow h.orow (by decide)),by obtain ⟨cur,hc⟩:=h.box; exact ht.kind _ _ _ hc,Nat.le_trans h.le ht.size⟩
 ·intro j u hj
  by_cases h1:j = 1
  ·subst h1; cases hj; exact hc
  ·rw [Nat.zero_add,hcell j h1]
   have:W.cell? ⟨mb,0 + j,none⟩ = some u:=h.cells j u (by
    rcases j with _ | _ | j
    ·exact hj
    ·exact absurd rfl h1
    ·exact hj)
   rwa [Nat.zero_add] at this
 ·by_cases h1:j = 1
  ·subst h1; rw [Nat.zero_add,hc]; rfl
  ·rw [Nat.zero_add,hcell j h1]; have:=(h.there j hj).1; rwa [Nat.zero_add] at this
 ·rw [Nat.zero_add,ht.frozen]; have:=(h.there j hj).2; rwa [Nat.zero_add] at this
set_option maxRecDepth 100000 in
set_option maxHeartbeats 3200000 in
theorem rest_any (mb B:Nat) (next:Int) (vq:Value) (l:List Od) (t:Od) (vt:Value) (ts:List Ev) (w:World) (h:MatS mb B w next vq l t vt ts) (hn:l.length ≤ 1000) :
  Calls Tryz.prog 120 #[.pointer (some ⟨mb,0,none⟩)] w fun e w'=>∃ vq',e = .returned (.tuple #[])∧MatS mb B w' next vq' (l ++ [t]) t vt ts∧KeptBut mb B w w':=by
 have HM:=hide h
 have hmw:=h.lt
 have hBw:=h.le
 have hnq:=h.nq
 have HBX:=hide h.box
 have HORO:=hide h.orow
 have hM:=hide h.cells
 have HM1:Hid (w.cell? ⟨mb,1,none⟩ = some vq):=za hM 1 _ rfl
 have HF1:Hid (w.frozen? ⟨mb,1,none⟩ = false):=by have:=(h.there 1 (by omega)).2; rwa [Nat.zero_add] at this
 clear h
 obtain ⟨i0,hi0,hz0,hz1,hz2⟩:=info_parts Tryz.infoOrder
 go_enter Tryz.func120,Tryz.ntmps120
 go_wp2_with fail
 refine zj (RT (fun V=>Below w.heap.size w V) (fun f=>{ tmps:=#[.pointer (some ⟨mb,0,none⟩),undef,f 0,f 1,f 2,f 3,f 4,f 5,f 6,f 7,f 8,f 9,f 10,f 11,f 12,f 13,f 14],defers:=[] }) 11 15 (DR mb B w vq l t)) (by kernel_rfl) ?_ ?_ ?_
 ·exact ⟨fun _=>undef,rfl,fun _=>⟨rfl,rfl,rfl,Nat.le_refl _,fun _ _=>rfl⟩,fun j hj=>by rw [List.getElem?_replicate] at hj; split at hj <;> simp at hj⟩
 ·rintro x A V ⟨f,rfl,-,hD⟩ hx hrd
  have hallx:=zY hrd hx (acyc _ (by kernel_rfl))
  have k11:x[11]? = some true:=hallx 11 (by simp)
  have k15:x[15]? = some true:=hallx 15 (by simp)
  obtain ⟨va,vc,-,-,-,hfin⟩:=hD 11 k11
  obtain ⟨q1,q2,q3⟩:=hfin k15
  have HFIN:Hid (_∧_∧_):=⟨q1,q2,q3⟩
  clear hD hallx hrd hx k11 k15 hfin q1 q2 q3
  dsimp only
  go_wp2_with fail
  go_end0
  exact ⟨_,rfl,matS_took (za HM) (za HFIN).2.2 (za HFIN).1 (za HFIN).2.1,zbb (za HFIN).2.2 hBw (fun g hg=>((za HORO).lt g hg).1)⟩
 ·rintro x A V i op ⟨f,rfl,hbs,hD⟩ hcl hx ho hxi hall
  have HBS:=hide hbs
  have HD:=hide hD
  have cellV:∀ b o u,w.cell? ⟨b,o,none⟩ = some u→¬ x[11]? = some true→V.cell? ⟨b,o,none⟩ = some u:=fun b o u hu hn11=>((za HBS hn11).cell (p:=⟨b,o,none⟩) (World.block_lt_of_cell? w _ hu)).trans hu
  have n11':i < 11→0 < i→¬ x[11]? = some true:=fun hlt hpos h11=>by
   have h5:=hcl 11 _ rfl h11 ⟨5,.data⟩ (by simp) rfl
   have h10:=hcl 11 _ rfl h11 ⟨10,.data⟩ (by simp) rfl
   have h4:=hcl 5 _ rfl h5 ⟨4,.data⟩ (by simp) rfl
   have h9:=hcl 10 _ rfl h10 ⟨9,.data⟩ (by simp) rfl
   have h3:=hcl 4 _ rfl h4 ⟨3,.data⟩ (by simp) rfl
   have h8:=hcl 9 _ rfl h9 ⟨8,.data⟩ (by simp) rfl
   have h2:=hcl 3 _ rfl h3 ⟨2,.data⟩ (by simp) rfl
   have h7:=hcl 8 _ rfl h8 ⟨7,.data⟩ (by simp) rfl
   have h1:=hcl 2 _ rfl h2 ⟨1,.data⟩ (by simp) rfl
   have h6:=hcl 7 _ rfl h7 ⟨6,.data⟩ (by simp) rfl
   have hallk:∀ j,0 < j→j < 11→x[j]? = some true:=fun j hj0 hj=>by
    rcases (by omega:j = 1 ∨ j = 2 ∨ j = 3 ∨ j = 4 ∨ j = 5 ∨ j = 6 ∨ j = 7 ∨ j = 8 ∨ j = 9 ∨ j = 10) with rfl | rfl | rfl | rfl | rfl | rfl | rfl | rfl | rfl | rfl <;> assumption
   rw [hallk i hpos hlt] at hxi; cases hxi
  have n15':i < 15→¬ x[15]? = some true:=fun hlt h15=>by
   have h14:=hcl 15 _ rfl h15 ⟨14,.data⟩ (by simp) rfl
   have h11:=hcl 15 _ rfl h15 ⟨11,.data⟩ (by simp) rfl
   have h13:=hcl 14 _ rfl h14 ⟨13,.data⟩ (by simp) rfl
   have h5:=hcl 11 _ rfl h11 ⟨5,.data⟩ (by simp) rfl
   have h10:=hcl 11 _ rfl h11 ⟨10,.data⟩ (by simp) rfl
   have h12:=hcl 13 _ rfl h13 ⟨12,.data⟩ (by simp) rfl
   have h4:=hcl 5 _ rfl h5 ⟨4,.data⟩ (by simp) rfl
   have h9:=hcl 10 _ rfl h10 ⟨9,.data⟩ (by simp) rfl
   have h0:=hcl 12 _ rfl h12 ⟨0,.data⟩ (by simp) rfl
   have h3:=hcl 4 _ rfl h4 ⟨3,.data⟩ (by simp) rfl
   have h8:=hcl 9 _ rfl h9 ⟨8,.data⟩ (by simp) rfl
   have h2:=hcl 3 _ rfl h3 ⟨2,.data⟩ (by simp) rfl
   have h7:=hcl 8 _ rfl h8 ⟨7,.data⟩ (by simp) rfl
   have h1:=hcl 2 _ rfl h2 ⟨1,.data⟩ (by simp) rfl
   have h6:=hcl 7 _ rfl h7 ⟨6,.data⟩ (by simp) rfl
   have hallk:∀ j,j < 15→x[j]? = some true:=fun j hj=>by
    rcases (by omega:j = 0 ∨ j = 1 ∨ j = 2 ∨ j = 3 ∨ j = 4 ∨ j = 5 ∨ j = 6 ∨ j = 7 ∨ j = 8 ∨ j = 9 ∨ j = 10 ∨ j = 11 ∨ j = 12 ∨ j = 13 ∨ j = 14) with rfl | rfl | rfl | rfl | rfl | rfl | rfl | rfl | rfl | rfl | rfl | rfl | rfl | rfl | rfl <;> assumption
   rw [hallk i hlt] at hxi; cases hxi
  clear hcl hbs
  match i,ho with
  | 0,ho =>
   obtain rfl:=Option.some.inj ho
   clear hall hD
   rw [if_pos (by rfl)]
   unfold Oper.wp
   go_simp
   exact ⟨upd f 0 (.pointer (some ⟨mb,0,none⟩)),by simp [upd],zx (za HD) (by decide) (by decide) (fun _ _ h=>h) (za HBS) rfl⟩
  | 1,ho =>
   obtain rfl:=Option.some.inj ho
   clear hall hD
   rw [if_pos (by rfl)]
   unfold Oper.wp
   go_simp
   exact ⟨upd f 1 (.pointer (some ⟨mb,0,none⟩)),by simp [upd],zx (za HD) (by decide) (by decide) (fun _ _ h=>h) (za HBS) rfl⟩
  | 2,ho =>
   obtain rfl:=Option.some.inj ho
   have g:f 1 = .pointer (some ⟨mb,0,none⟩):=hD 1 (hall ⟨1,.data⟩ (by simp) rfl)
   clear hall hD
   rw [if_pos (by rfl)]
   unfold Oper.wp
   go_simp
   exact ⟨upd f 2 (.pointer (some ⟨mb,0,none⟩)),by simp [upd,g],zx (za HD) (by decide) (by decide) (fun _ _ h=>h) (za HBS) rfl⟩
  | 3,ho =>
   obtain rfl:=Option.some.inj ho
   have g:f 2 = .pointer (some ⟨mb,0,none⟩):=hD 2 (hall ⟨2,.data⟩ (by simp) rfl)
   clear hall hD
   rw [if_pos (by rfl)]
   unfold Oper.wp
   go_simp
   exact ⟨upd f 3 (.pointer (some ⟨mb,0,none⟩)),by simp [upd,g],zx (za HD) (by decide) (by decide) (fun _ _ h=>h) (za HBS) rfl⟩
  | 4,ho =>
   obtain rfl:=Option.some.inj ho
   have g:f 3 = .pointer (some ⟨mb,0,none⟩):=hD 3 (hall ⟨3,.data⟩ (by simp) rfl)
   clear hall hD
   rw [if_pos (by rfl)]
   unfold Oper.wp
   go_simp
   exact ⟨upd f 4 (.pointer (some ⟨mb,1,none⟩)),by simp [upd,g],zx (za HD) (by decide) (by decide) (fun _ _ h=>h) (za HBS) rfl⟩
  | 5,ho =>
   obtain rfl:=Option.some.inj ho
   have g:f 4 = .pointer (some ⟨mb,1,none⟩):=hD 4 (hall ⟨4,.data⟩ (by simp) rfl)
   have n11:=n11' (by omega) (by omega)
   have y1:=cellV mb 1 _ (za HM1) n11
   clear hall hD
   rw [if_pos (by rfl)]
   unfold Oper.wp
   go_simp
   exact ⟨upd f 5 (vq),by simp [upd,g],zx (za HD) (by decide) (by decide) (fun _ _ h=>h) (za HBS) rfl⟩
  | 6,ho =>
   obtain rfl:=Option.some.inj ho
   clear hall hD
   rw [if_pos (by rfl)]
   unfold Oper.wp
   go_simp
   exact ⟨upd f 6 (.pointer (some ⟨mb,0,none⟩)),by simp [upd],zx (za HD) (by decide) (by decide) (fun _ _ h=>h) (za HBS) rfl⟩
  | 7,ho =>
   obtain rfl:=Option.some.inj ho
   have g:f 6 = .pointer (some ⟨mb,0,none⟩):=hD 6 (hall ⟨6,.data⟩ (by simp) rfl)
   clear hall hD
   rw [if_pos (by rfl)]
   unfold Oper.wp
   go_simp
   exact ⟨upd f 7 (.pointer (some ⟨mb,0,none⟩)),by simp [upd,g],zx (za HD) (by decide) (by decide) (fun _ _ h=>h) (za HBS) rfl⟩
  | 8,ho =>
   obtain rfl:=Option.some.inj ho
   have g:f 7 = .pointer (some ⟨mb,0,none⟩):=hD 7 (hall ⟨7,.data⟩ (by simp) rfl)
   clear hall hD
   rw [if_pos (by rfl)]
   unfold Oper.wp
   go_simp
   exact ⟨upd f 8 (.pointer (some ⟨mb,2,none⟩)),by simp [upd,g],zx (za HD) (by decide) (by decide) (fun _ _ h=>h) (za HBS) rfl⟩
  | 9,ho =>
   obtain rfl:=Option.some.inj ho
   have g:f 8 = .pointer (some ⟨mb,2,none⟩):=hD 8 (hall ⟨8,.data⟩ (by simp) rfl)
   have n11:=n11' (by omega) (by omega)
   have y2:=cellV mb 2 _ (za hM 2 _ rfl) n11
   have y3:=cellV mb 3 _ (za hM 3 _ rfl) n11
   have y4:=cellV mb 4 _ (za hM 4 _ rfl) n11
   have y5:=cellV mb 5 _ (za hM 5 _ rfl) n11
   have y6:=cellV mb 6 _ (za hM 6 _ rfl) n11
   have y7:=cellV mb 7 _ (za hM 7 _ rfl) n11
   clear hall hD
   rw [if_pos (by rfl)]
   unfold Oper.wp
   go_simp
   exact ⟨upd f 9 (.agg #[.int .i64 t.id,.int .i64 t.side,.int .i64 t.ticks,.int .i64 t.left,.int .i64 t.life,.string t.tag]),by simp [upd,g],zx (za HD) (by decide) (by decide) (fun _ _ h=>h) (za HBS) rfl⟩
  | 10,ho =>
   obtain rfl:=Option.some.inj ho
   have g:f 9 = .agg #[.int .i64 t.id,.int .i64 t.side,.int .i64 t.ticks,.int .i64 t.left,.int .i64 t.life,.string t.tag]:=hD 9 (hall ⟨9,.data⟩ (by simp) rfl)
   have n11:=n11' (by omega) (by omega)
   have hbV:=za HBS n11
   clear hall hD
   rw [if_pos (by rfl)]
   unfold Oper.wp
   go_simp
   refine ⟨upd f 10 (.slice (some ⟨V.heap.size,0,none⟩) 1 1),by simp [upd,g],zx (za HD) (by decide) (by decide) (dr_alloc n11) (fun _=>hbV.alloc hbV.size _) ⟨V.heap.size,rfl,fun _=>?_⟩⟩
   exact fun j u h=>zci V t.vs 100 j u h
  | 11,ho =>
   obtain rfl:=Option.some.inj ho
   have g5:f 5 = vq:=hD 5 (hall ⟨5,.data⟩ (by simp) rfl)
   obtain ⟨s,g10,hcs⟩:=hD 10 (hall ⟨10,.data⟩ (by simp) rfl)
   have n11:¬ x[11]? = some true:=by rw [hxi]; simp
   have n15:=n15' (by omega)
   have hbV:=za HBS n11
   have hrow:ORow V B vq l:=zm (za HORO) hbV
   rw [if_pos (by rfl)]
   refine wp_append_own V (.tmp 7) (.tmp 12) 30 rfl B 100 i0 _ 6 56 Tryz.underlying30 hi0 hz0 hz1 hz2 rfl (by decide) vq l.length (l.flatMap Od.vs) g5 hrow ⟨s,0,none⟩ 1 1 t.vs g10 rfl (hcs n11) (one_od t) (by unfold maxLen; omega) (by omega) (by have:=hbV.size; omega) ?_
   intro v' w' hown hgr _
   obtain ⟨ga,gc,rfl⟩:=zbI hown (by omega)
   refine ⟨upd f 11 (.slice (some ⟨ga,0,none⟩) (l.length + 1) gc),rfl,rt_one (by decide) (za HD) hxi n15 (fun j v hj h=>dr_one j v hj h) ⟨some ⟨ga,0,none⟩,gc,rfl,trivial,fun _=>⟨?_,?_⟩,fun h=>h.elim⟩⟩
   ·show World.ownsRow _ _ _ _ _ (l ++ [t]).length _
    rw [List.length_append,List.flatMap_append]; simpa using hown
   ·exact (zaa hbV (Nat.le_refl _)).trans hgr
  | 12,ho =>
   obtain rfl:=Option.some.inj ho
   have g:f 0 = .pointer (some ⟨mb,0,none⟩):=hD 0 (hall ⟨0,.data⟩ (by simp) rfl)
   clear hall hD
   rw [if_pos (by rfl)]
   unfold Oper.wp
   go_simp
   exact ⟨upd f 12 (.pointer (some ⟨mb,0,none⟩)),by simp [upd,g],zx (za HD) (by decide) (by decide) (fun _ _ h=>h) (za HBS) rfl⟩
  | 13,ho =>
   obtain rfl:=Option.some.inj ho
   have g:f 12 = .pointer (some ⟨mb,0,none⟩):=hD 12 (hall ⟨12,.data⟩ (by simp) rfl)
   clear hall hD
   rw [if_pos (by rfl)]
   unfold Oper.wp
   go_simp
   exact ⟨upd f 13 (.pointer (some ⟨mb,0,none⟩)),by simp [upd,g],zx (za HD) (by decide) (by decide) (fun _ _ h=>h) (za HBS) rfl⟩
  | 14,ho =>
   obtain rfl:=Option.some.inj ho
   have g:f 13 = .pointer (some ⟨mb,0,none⟩):=hD 13 (hall ⟨13,.data⟩ (by simp) rfl)
   clear hall hD
   rw [if_pos (by rfl)]
   unfold Oper.wp
   go_simp
   exact ⟨upd f 14 (.pointer (some ⟨mb,1,none⟩)),by simp [upd,g],zx (za HD) (by decide) (by decide) (fun _ _ h=>h) (za HBS) rfl⟩
  | 15,ho =>
   obtain rfl:=Option.some.inj ho
   have g14:f 14 = .pointer (some ⟨mb,1,none⟩):=hD 14 (hall ⟨14,.data⟩ (by simp) rfl)
   have k11:x[11]? = some true:=hall ⟨11,.data⟩ (by simp) rfl
   have n15:¬ x[15]? = some true:=by rw [hxi]; simp
   obtain ⟨ga,gc,g11,-,hfa,-⟩:=hD 11 k11
   obtain ⟨her,hgr⟩:=hfa n15
   have hmbV:some mb ≠ vq.ownBlock:=hnq
   have y1:=hgr.cell (za HM1) hmbV
   have f1:V.frozen? ⟨mb,1,none⟩ = false:=(World.frozen?_of_block (a:=⟨mb,1,none⟩) (hgr.block mb (by omega) hmbV)).trans (za HF1)
   have HER:=hide (g11 ▸ her)
   have HBXV:Hid (∃ cur,V.heap[mb]? = some (.cells cur 170 (0,0))):=by obtain ⟨cur,hc⟩:=za HBX; exact ⟨cur,(hgr.block mb (by omega) hmbV).trans hc⟩
   have HGR:=hide hgr
   clear hall hD her hgr hfa
   rw [if_pos (by rfl)]
   unfold Oper.wp
   go_simp
   refine ⟨upd f 15 undef,by simp [upd,g14,g11],rt_two (by decide) (za HD) k11 hxi (fun j hj hxj h=>dr_two j hj h (fun hj11=>?_)) trivial⟩
   subst hj11
   obtain ⟨-,-,-,-,-,-⟩:=h
   refine ⟨ga,gc,g11,trivial,fun h=>absurd trivial h,fun _=>?_⟩
   rw [g11]
   refine ⟨World.cell?_setCell_same _ _ _ y1,zt (za HER) (zl (za HER) (za HBXV) (by decide)) 1 _,?_⟩
   exact zaq (zah (za HGR) (by omega) hmbV) (zbN (o:=0) _ _)
  | i + 16,ho=>simp at ho
end Go.Proofs.YtdfihaabhichdaaGreat
namespace Go.Proofs.YtdfihaabhichdaaGreat
open Go.RowKit
set_option linter.unusedVariables false

def fullB (l:List Od):Bool:=if 20 < l.length then true else decide (8 < ((zbi true 1 (zA l 1)).length:Int) + (zbi false 2 (zA l 2)).length)
def DF (mb:Nat) (BV:Value) (q1 q2:List Od) (N:Int) (p:Prop) (W:World):Nat→Value→Prop
 | 0,v=>v = .pointer (some ⟨mb,0,none⟩)
 | 1,v=>v = .pointer (some ⟨mb,0,none⟩)
 | 2,v=>v = .pointer (some ⟨mb,0,none⟩)
 | 3,v=>v = BV
 | 4,v=>∃ b,v = zca b∧Tb W b q1
 | 5,v=>v = .pointer (some ⟨mb,0,none⟩)
 | 6,v=>v = .pointer (some ⟨mb,0,none⟩)
 | 7,v=>v = .pointer (some ⟨mb,0,none⟩)
 | 8,v=>v = BV
 | 9,v=>∃ b,v = zcb b∧Ts W b q2
 | 10,v=>v = .int .i64 N
 | 11,v=>v = .bool (decide (8 < N))
 | 12,v=>v = .bool (decide (8 < N))
 | _,_=>True
theorem df_mono {mb:Nat} {BV:Value} {q1 q2:List Od} {N:Int}:∀ p W W' j v,Below W.heap.size W W'→DF mb BV q1 q2 N p W j v→DF mb BV q1 q2 N p W' j v:=by
 intro p W W' j v hb h
 match j with
 | 0 | 1 | 2 | 3 | 5 | 6 | 7 | 8 | 10 | 11 | 12=>exact h
 | 4=>obtain ⟨b,h1,h2⟩:=h; exact ⟨b,h1,zJ h2 (hb.block _ (zae h2))⟩
 | 9=>obtain ⟨b,h1,h2⟩:=h; exact ⟨b,h1,zJ h2 (hb.block _ (zae h2))⟩
 | n + 13=>trivial
set_option maxRecDepth 100000 in
set_option maxHeartbeats 1600000 in
theorem isTooFull_any (mb B:Nat) (next:Int) (vq:Value) (l:List Od) (t:Od) (vt:Value) (ts:List Ev) (w:World) (h:MatS mb B w next vq l t vt ts) (hm:l.length ≤ 1000) (hl:∀ o' ∈ l,0 ≤ o'.left∧o'.left ≤ 1000000) :
  Calls Tryz.prog 157 #[.pointer (some ⟨mb,0,none⟩)] w fun e w'=>e = .returned (.bool (fullB l))∧Below w.heap.size w w':=by
 have hmw:=h.lt
 have hBw:=h.le
 have HR:=hide (zP h.orow (by omega))
 obtain ⟨a,cap,rfl,_,_⟩:=zP h.orow (by omega)
 have HM:=hide h.cells
 have z0:w.cell? ⟨mb,0,none⟩ = some (.int .i64 next):=h.cells 0 _ rfl
 have z1:w.cell? ⟨mb,1,none⟩ = some (.slice a l.length cap):=h.cells 1 _ rfl
 have HLB:=hide hl
 clear h hl
 go_enter Tryz.func157,Tryz.ntmps157
 by_cases h20:20 < l.length
 ·have h20':(20:Int) < l.length:=by omega
  have HF:Hid (fullB l = true):=if_pos h20
  clear h20
  go_wp2_with fail
  go_ret
  exact ⟨zF (za HF).symm,Below.refl _ _⟩
 have h20':¬ (20:Int) < l.length:=by omega
 have hn:l.length ≤ 20:=by omega
 have n1:(zA l 1).length ≤ 20:=Nat.le_trans (List.length_filter_le _ _) hn
 have n2:(zA l 2).length ≤ 20:=Nat.le_trans (List.length_filter_le _ _) hn
 generalize hN:((zbi true 1 (zA l 1)).length:Int) + (zbi false 2 (zA l 2)).length = N
 have HF:Hid (fullB l = decide (8 < N)):=by show _ = _; rw [fullB,if_neg h20,hN]
 have HNN:=hide hN
 clear hN h20
 go_wp2_with fail
 clear z0 z1
 refine zj (RG w (fun f=>{ tmps:=#[.pointer (some ⟨mb,0,none⟩),undef,f 12,.pointer (some ⟨mb,0,none⟩),.pointer (some ⟨mb,0,none⟩),.pointer (some ⟨mb,0,none⟩),.pointer (some ⟨mb,1,none⟩),.slice a l.length cap,.int .i64 l.length,.bool false,f 0,f 1,f 2,f 3,f 4,f 5,f 6,f 7,f 8,f 9,f 10,f 11],defers:=[] }) 99 (DF mb (.agg #[.int .i64 next,.slice a l.length cap]) (zA l 1) (zA l 2) N)) (by kernel_rfl) ?_ ?_ ?_
 ·exact ⟨fun j=>if j = 12 then .bool false else undef,rfl,⟨rfl,rfl,rfl,Nat.le_refl _,fun _ _=>rfl⟩,fun j hj=>by rw [List.getElem?_replicate] at hj; split at hj <;> simp at hj⟩
 ·rintro x A V ⟨f,rfl,hbel,hD⟩ hx hrd
  have hallx:=zY hrd hx (acyc _ (by kernel_rfl))
  have e12:f 12 = .bool (decide (8 < N)):=hD 12 (hallx 12 (by simp))
  have HBV:=hide hbel
  simp only [e12]
  clear hD hallx e12 hrd hx hbel
  go_wp2_with fail
  go_ret
  exact ⟨zF (za HF).symm,za HBV⟩
 ·rintro x A V i o ⟨f,rfl,hbel,hD⟩ hcl hx ho hxi hall
  clear hcl
  have HBV:=hide hbel
  have HD:=hide hD
  have z0:=zb (za HM) hbel hmw 0 _ rfl
  have z1:=zb (za HM) hbel hmw 1 _ rfl
  rw [Nat.zero_add] at z0 z1
  have HRD:=hide (zi (za HR) hbel (Nat.le_refl _))
  match i,ho with
  | 0,ho =>
   obtain rfl:=Option.some.inj ho
   clear hall hD hbel
   rw [if_pos (by rfl)]
   unfold Oper.wp
   go_simp
   exact ⟨upd f 0 (.pointer (some ⟨mb,0,none⟩)),by simp [upd],ze (za HBV) (za HD) (by decide) rfl⟩
  | 1,ho =>
   obtain rfl:=Option.some.inj ho
   have g:f 0 = .pointer (some ⟨mb,0,none⟩):=hD 0 (hall ⟨0,.data⟩ (by simp) rfl)
   clear hall hD hbel
   rw [if_pos (by rfl)]
   unfold Oper.wp
   go_simp
   exact ⟨upd f 1 (.pointer (some ⟨mb,0,none⟩)),by simp [upd,g],ze (za HBV) (za HD) (by decide) rfl⟩
  | 2,ho =>
   obtain rfl:=Option.some.inj ho
   have g:f 1 = .pointer (some ⟨mb,0,none⟩):=hD 1 (hall ⟨1,.data⟩ (by simp) rfl)
   clear hall hD hbel
   rw [if_pos (by rfl)]
   unfold Oper.wp
   go_simp
   exact ⟨upd f 2 (.pointer (some ⟨mb,0,none⟩)),by simp [upd,g],ze (za HBV) (za HD) (by decide) rfl⟩
  | 3,ho =>
   obtain rfl:=Option.some.inj ho
   have g:f 2 = .pointer (some ⟨mb,0,none⟩):=hD 2 (hall ⟨2,.data⟩ (by simp) rfl)
   clear hall hD hbel
   rw [if_pos (by rfl)]
   unfold Oper.wp
   go_simp
   exact ⟨upd f 3 (.agg #[.int .i64 next,.slice a l.length cap]),by simp [upd,g],ze (za HBV) (za HD) (by decide) rfl⟩
  | 4,ho =>
   obtain rfl:=Option.some.inj ho
   have g:f 3 = .agg #[.int .i64 next,.slice a l.length cap]:=hD 3 (hall ⟨3,.data⟩ (by simp) rfl)
   clear hall hD hbel
   rw [if_pos (by rfl)]
   unfold Oper.wp
   go_simp
   refine (sideOf_buy next _ l V (za HRD) hn (za HLB)).mono ?_
   rintro e w4 ⟨b,rfl,ht,hle,hb4⟩
   exact ⟨upd f 4 (zca b),by simp [upd,g],zcs df_mono (za HBV) (za HD) hb4 (by decide) ⟨b,rfl,ht⟩⟩
  | 5,ho =>
   obtain rfl:=Option.some.inj ho
   clear hall hD hbel
   rw [if_pos (by rfl)]
   unfold Oper.wp
   go_simp
   exact ⟨upd f 5 (.pointer (some ⟨mb,0,none⟩)),by simp [upd],ze (za HBV) (za HD) (by decide) rfl⟩
  | 6,ho =>
   obtain rfl:=Option.some.inj ho
   have g:f 5 = .pointer (some ⟨mb,0,none⟩):=hD 5 (hall ⟨5,.data⟩ (by simp) rfl)
   clear hall hD hbel
   rw [if_pos (by rfl)]
   unfold Oper.wp
   go_simp
   exact ⟨upd f 6 (.pointer (some ⟨mb,0,none⟩)),by simp [upd,g],ze (za HBV) (za HD) (by decide) rfl⟩
  | 7,ho =>
   obtain rfl:=Option.some.inj ho
   have g:f 6 = .pointer (some ⟨mb,0,none⟩):=hD 6 (hall ⟨6,.data⟩ (by simp) rfl)
   clear hall hD hbel
   rw [if_pos (by rfl)]
   unfold Oper.wp
   go_simp
   exact ⟨upd f 7 (.pointer (some ⟨mb,0,none⟩)),by simp [upd,g],ze (za HBV) (za HD) (by decide) rfl⟩
  | 8,ho =>
   obtain rfl:=Option.some.inj ho
   have g:f 7 = .pointer (some ⟨mb,0,none⟩):=hD 7 (hall ⟨7,.data⟩ (by simp) rfl)
   clear hall hD hbel
   rw [if_pos (by rfl)]
   unfold Oper.wp
   go_simp
   exact ⟨upd f 8 (.agg #[.int .i64 next,.slice a l.length cap]),by simp [upd,g],ze (za HBV) (za HD) (by decide) rfl⟩
  | 9,ho =>
   obtain rfl:=Option.some.inj ho
   have g:f 8 = .agg #[.int .i64 next,.slice a l.length cap]:=hD 8 (hall ⟨8,.data⟩ (by simp) rfl)
   clear hall hD hbel
   rw [if_pos (by rfl)]
   unfold Oper.wp
   go_simp
   refine (sideOf_sell next 2 (by omega) _ l V (za HRD) hn (za HLB)).mono ?_
   rintro e w4 ⟨b,rfl,ht,hle,hb4⟩
   exact ⟨upd f 9 (zcb b),by simp [upd,g],zcs df_mono (za HBV) (za HD) hb4 (by decide) ⟨b,rfl,ht⟩⟩
  | 10,ho =>
   obtain rfl:=Option.some.inj ho
   obtain ⟨b1,g4,t4⟩:=hD 4 (hall ⟨4,.data⟩ (by simp) rfl)
   obtain ⟨b2,g9,t9⟩:=hD 9 (hall ⟨9,.data⟩ (by simp) rfl)
   have HT4:=hide t4
   have HT9:=hide t9
   clear hall hD hbel t4 t9
   rw [if_pos (by rfl)]
   unfold Oper.wp
   go_simp
   refine (countLevels_any b1 b2 1 2 (zA l 1) (zA l 2) V (za HT4) (za HT9) n1 n2).mono ?_
   rw [za HNN]
   rintro e w4 ⟨rfl,hb4⟩
   exact ⟨upd f 10 (.int .i64 N),by simp [upd,g4,g9],zcs df_mono (za HBV) (za HD) hb4 (by decide) rfl⟩
  | 11,ho =>
   obtain rfl:=Option.some.inj ho
   have g:f 10 = .int .i64 N:=hD 10 (hall ⟨10,.data⟩ (by simp) rfl)
   clear hall hD hbel
   rw [if_pos (by rfl)]
   unfold Oper.wp
   go_simp
   exact ⟨upd f 11 (.bool (decide (8 < N))),by simp [upd,g],ze (za HBV) (za HD) (by decide) rfl⟩
  | 12,ho =>
   obtain rfl:=Option.some.inj ho
   have g:f 11 = .bool (decide (8 < N)):=hD 11 (hall ⟨11,.data⟩ (by simp) rfl)
   clear hall hD hbel
   rw [if_pos (by rfl)]
   unfold Oper.wp
   go_simp
   exact ⟨upd f 12 (.bool (decide (8 < N))),by simp [upd,g],ze (za HBV) (za HD) (by decide) rfl⟩
  | n + 13,ho=>simp at ho
end Go.Proofs.YtdfihaabhichdaaGreat
