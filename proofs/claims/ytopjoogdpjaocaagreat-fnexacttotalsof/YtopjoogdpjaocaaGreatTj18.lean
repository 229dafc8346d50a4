/-
  An event told to the engine: laid behind those of the open group. By the program: proved by walking the method.
-/
import Derived.Test.YtopjoogdpjaocaaGreatTj17
set_option linter.unusedVariables false
set_option maxHeartbeats 6400000
set_option maxRecDepth 100000
namespace Go.Proofs.YtopjoogdpjaocaaGreat
open Go.RowKit
def DE (mb B:Nat) (W0:World) (vo:Value) (ts:List Ev) (e:Ev) (p q:Prop) (V:World):Nat→Value→Prop
 | 0,v=>v = .pointer (some ⟨mb,0,none⟩)
 | 1,v=>v = .pointer (some ⟨mb,0,none⟩)
 | 2,v=>v = .pointer (some ⟨mb,0,none⟩)
 | 3,v=>v = .pointer (some ⟨mb,11,none⟩)
 | 4,v=>v = vo
 | 5,v=>v = .agg #[.int .i64 e.kind,.int .i64 e.cmd.k,.int .i64 e.cmd.s,.int .i64 e.cmd.t,.int .i64 e.cmd.l,.int .i64 e.cmd.q,.int .i64 e.cmd.i,.float .f64 e.cmd.p,.string e.cmd.g,.int .i64 e.id,.int .i64 e.other,.int .i64 e.qty,.int .i64 e.price,.int .i64 e.reason]
 | 6,v=>∃ s,v = .slice (some ⟨s,0,none⟩) 1 1∧(¬ p→∀ j u,e.vs[j]? = some u→V.cell? ((⟨s,0,none⟩:Addr).add j) = some u)
 | 7,v=>∃ a c,v = .slice a (ts.length + 1) c∧p∧(¬ q→ERow V B v (ts ++ [e])∧W0.grownBy V vo.ownBlock)∧(q→V.cell? ⟨mb,11,none⟩ = some v∧ERow V B v (ts ++ [e])∧TookAt mb 10 vo.ownBlock W0 V)
 | 8,v=>v = .pointer (some ⟨mb,0,none⟩)
 | 9,v=>v = .pointer (some ⟨mb,11,none⟩)
 | _,_=>True
section
variable {mb B:Nat} {W0 V V':World} {vo:Value} {ts:List Ev} {e:Ev} {p q:Prop}
theorem de_alloc {o:Obj} (hp:¬ p):∀ j v,DE mb B W0 vo ts e p q V j v→DE mb B W0 vo ts e p q (V.alloc o) j v:=by
 intro j v h
 match j with
 | 0 | 1 | 2 | 3 | 4 | 5 | 8 | 9=>exact h
 | 6 =>
  obtain ⟨s,h1,h2⟩:=h
  exact ⟨s,h1,fun hp j u hu=>(World.cell?_alloc_lt _ _ _ (World.block_lt_of_cell? V _ (h2 hp j u hu))).trans (h2 hp j u hu)⟩
 | 7=>obtain ⟨_,_,_,h2,_⟩:=h; exact absurd h2 hp
 | j + 10=>trivial
theorem de_one:∀ j v,j ≠ 7→DE mb B W0 vo ts e False False V j v→DE mb B W0 vo ts e True False V' j v:=by
 intro j v hj h
 match j with
 | 0 | 1 | 2 | 3 | 4 | 5 | 8 | 9=>exact h
 | 6 =>
  obtain ⟨s,h1,h2⟩:=h
  exact ⟨s,h1,fun hp=>absurd trivial hp⟩
 | 7=>exact absurd rfl hj
 | j + 10=>trivial
theorem de_two {v:Value}:∀ j,j ≠ 10→DE mb B W0 vo ts e True False V j v→(j = 7→DE mb B W0 vo ts e True True V' 7 v)→DE mb B W0 vo ts e True True V' j v:=by
 intro j hj h h7
 match j with
 | 0 | 1 | 2 | 3 | 4 | 5 | 8 | 9=>exact h
 | 6 =>
  obtain ⟨s,h1,h2⟩:=h
  exact ⟨s,h1,fun hp=>absurd trivial hp⟩
 | 7=>exact h7 rfl
 | j + 10=>trivial
end
set_option maxRecDepth 100000 in
set_option maxHeartbeats 3200000 in
theorem tell_any (mb B:Nat) (vo:Value) (ts:List Ev) (e:Ev) (w:World) (c11:w.cell? ⟨mb,11,none⟩ = some vo) (f11:w.frozen? ⟨mb,11,none⟩ = false) (hbx:∃ cur,w.heap[mb]? = some (.cells cur 69 (0,0)))
  (her:ERow w B vo ts) (hB:B ≤ w.heap.size) (hn:ts.length ≤ 1000) :
  Calls Tryz.prog 48 #[.pointer (some ⟨mb,0,none⟩),.agg #[.int .i64 e.kind,.int .i64 e.cmd.k,.int .i64 e.cmd.s,.int .i64 e.cmd.t,.int .i64 e.cmd.l,.int .i64 e.cmd.q,.int .i64 e.cmd.i,.float .f64 e.cmd.p,.string e.cmd.g,.int .i64 e.id,.int .i64 e.other,.int .i64 e.qty,.int .i64 e.price,.int .i64 e.reason]] w fun r w'=>∃ vo',r = .returned (.tuple #[])∧w'.cell? ⟨mb,11,none⟩ = some vo'∧ERow w' B vo' (ts ++ [e])∧TookAt mb 10 vo.ownBlock w w':=by
 obtain ⟨i0,hi0,hz0,hz1,hz2⟩:=info_parts infoEv
 have hnq:some mb ≠ vo.ownBlock:=zj her hbx (by decide)
 have hmw:mb < w.heap.size:=World.block_lt_of_cell? w _ c11
 have hb1:Below w.heap.size w (w.alloc (Obj.cells #[.int .i64 e.kind,.int .i64 e.cmd.k,.int .i64 e.cmd.s,.int .i64 e.cmd.t,.int .i64 e.cmd.l,.int .i64 e.cmd.q,.int .i64 e.cmd.i,.float .f64 e.cmd.p,.string e.cmd.g,.int .i64 e.id,.int .i64 e.other,.int .i64 e.qty,.int .i64 e.price,.int .i64 e.reason] 43)):=(Below.refl _ _).alloc (Nat.le_refl _) _
 have HB1:=hide hb1
 have hs1:w.heap.size < (w.alloc (Obj.cells #[.int .i64 e.kind,.int .i64 e.cmd.k,.int .i64 e.cmd.s,.int .i64 e.cmd.t,.int .i64 e.cmd.l,.int .i64 e.cmd.q,.int .i64 e.cmd.i,.float .f64 e.cmd.p,.string e.cmd.g,.int .i64 e.id,.int .i64 e.other,.int .i64 e.qty,.int .i64 e.price,.int .i64 e.reason] 43)).heap.size:=by rw [ze]; omega
 have HEB:Hid (World.rangeAt (w.alloc (Obj.cells #[.int .i64 e.kind,.int .i64 e.cmd.k,.int .i64 e.cmd.s,.int .i64 e.cmd.t,.int .i64 e.cmd.l,.int .i64 e.cmd.q,.int .i64 e.cmd.i,.float .f64 e.cmd.p,.string e.cmd.g,.int .i64 e.id,.int .i64 e.other,.int .i64 e.qty,.int .i64 e.price,.int .i64 e.reason] 43)) w.heap.size 0 e.vs):=zh w e.vs _
 have HM1:Hid (World.cell? (w.alloc (Obj.cells #[.int .i64 e.kind,.int .i64 e.cmd.k,.int .i64 e.cmd.s,.int .i64 e.cmd.t,.int .i64 e.cmd.l,.int .i64 e.cmd.q,.int .i64 e.cmd.i,.float .f64 e.cmd.p,.string e.cmd.g,.int .i64 e.id,.int .i64 e.other,.int .i64 e.qty,.int .i64 e.price,.int .i64 e.reason] 43)) ⟨mb,11,none⟩ = some vo):=(hb1.cell (p:=⟨mb,11,none⟩) hmw).trans c11
 have HF1:Hid (World.frozen? (w.alloc (Obj.cells #[.int .i64 e.kind,.int .i64 e.cmd.k,.int .i64 e.cmd.s,.int .i64 e.cmd.t,.int .i64 e.cmd.l,.int .i64 e.cmd.q,.int .i64 e.cmd.i,.float .f64 e.cmd.p,.string e.cmd.g,.int .i64 e.id,.int .i64 e.other,.int .i64 e.qty,.int .i64 e.price,.int .i64 e.reason] 43)) ⟨mb,11,none⟩ = false):=(World.frozen?_of_block (a:=⟨mb,11,none⟩) (hb1.block mb hmw)).trans f11
 have HBX:Hid (∃ cur,(w.alloc (Obj.cells #[.int .i64 e.kind,.int .i64 e.cmd.k,.int .i64 e.cmd.s,.int .i64 e.cmd.t,.int .i64 e.cmd.l,.int .i64 e.cmd.q,.int .i64 e.cmd.i,.float .f64 e.cmd.p,.string e.cmd.g,.int .i64 e.id,.int .i64 e.other,.int .i64 e.qty,.int .i64 e.price,.int .i64 e.reason] 43)).heap[mb]? = some (.cells cur 69 (0,0))):=by obtain ⟨cur,hc⟩:=hbx; exact ⟨cur,(hb1.block mb hmw).trans hc⟩
 have HORO:=hide (zI her hb1)
 clear c11 f11 hbx her hb1
 go_enter Tryz.func48,Tryz.ntmps48
 refine wp_seq_k fun K hK=>?_
 have HK1:=hide hK
 clear hK
 go_wp2_with fail
 refine za HK1 _ _ ?_
 clear HK1
 generalize (w.alloc (Obj.cells #[.int .i64 e.kind,.int .i64 e.cmd.k,.int .i64 e.cmd.s,.int .i64 e.cmd.t,.int .i64 e.cmd.l,.int .i64 e.cmd.q,.int .i64 e.cmd.i,.float .f64 e.cmd.p,.string e.cmd.g,.int .i64 e.id,.int .i64 e.other,.int .i64 e.qty,.int .i64 e.price,.int .i64 e.reason] 43)) = X at HB1 hs1 HEB HM1 HF1 HBX HORO ⊢
 have hBX:B ≤ X.heap.size:=by omega
 have hmX:mb < X.heap.size:=by omega
 refine zo (RT (fun V=>Below X.heap.size X V) (fun f=>{ tmps:=#[.pointer (some ⟨mb,0,none⟩),.agg #[.int .i64 e.kind,.int .i64 e.cmd.k,.int .i64 e.cmd.s,.int .i64 e.cmd.t,.int .i64 e.cmd.l,.int .i64 e.cmd.q,.int .i64 e.cmd.i,.float .f64 e.cmd.p,.string e.cmd.g,.int .i64 e.id,.int .i64 e.other,.int .i64 e.qty,.int .i64 e.price,.int .i64 e.reason],undef,.pointer (some ⟨w.heap.size,0,none⟩),f 0,f 1,f 2,f 3,f 4,f 5,f 6,f 7,f 8,f 9],defers:=[] }) 7 10 (DE mb B X vo ts e)) (by kernel_rfl) ?_ ?_ ?_
 ·exact ⟨fun _=>undef,rfl,fun _=>⟨rfl,rfl,rfl,Nat.le_refl _,fun _ _=>rfl⟩,fun j hj=>by rw [List.getElem?_replicate] at hj; split at hj <;> simp at hj⟩
 ·rintro x A V ⟨f,rfl,-,hD⟩ hx hrd
  have hallx:=zab hrd hx (acyc _ (by kernel_rfl))
  have k7:x[7]? = some true:=hallx 7 (by simp)
  have k10:x[10]? = some true:=hallx 10 (by simp)
  obtain ⟨va,vc,-,-,-,hfin⟩:=hD 7 k7
  obtain ⟨q1,q2,q3⟩:=hfin k10
  have HFIN:Hid (_∧_∧_):=⟨q1,q2,q3⟩
  clear hD hallx hrd hx k7 k10 hfin q1 q2 q3
  dsimp only
  go_wp2_with fail
  go_end0
  exact ⟨_,rfl,(za HFIN).1,(za HFIN).2.1,zas (zaj (zaa (za HB1) (Nat.le_refl _)) hmw hnq) (za HFIN).2.2⟩
 ·rintro x A V i op ⟨f,rfl,hbs,hD⟩ hcl hx ho hxi hall
  have HBS:=hide hbs
  have HD:=hide hD
  have cellV:∀ b o u,X.cell? ⟨b,o,none⟩ = some u→¬ x[7]? = some true→V.cell? ⟨b,o,none⟩ = some u:=fun b o u hu hn7=>((za HBS hn7).cell (p:=⟨b,o,none⟩) (World.block_lt_of_cell? X _ hu)).trans hu
  have n7':i < 7→0 < i→¬ x[7]? = some true:=fun hlt hpos h7=>by
   have h4:=hcl 7 _ rfl h7 ⟨4,.data⟩ (by simp) rfl
   have h6:=hcl 7 _ rfl h7 ⟨6,.data⟩ (by simp) rfl
   have h3:=hcl 4 _ rfl h4 ⟨3,.data⟩ (by simp) rfl
   have h5:=hcl 6 _ rfl h6 ⟨5,.data⟩ (by simp) rfl
   have h2:=hcl 3 _ rfl h3 ⟨2,.data⟩ (by simp) rfl
   have h1:=hcl 2 _ rfl h2 ⟨1,.data⟩ (by simp) rfl
   have hallk:∀ j,0 < j→j < 7→x[j]? = some true:=fun j hj0 hj=>by
    rcases (by omega:j = 1 ∨ j = 2 ∨ j = 3 ∨ j = 4 ∨ j = 5 ∨ j = 6) with rfl | rfl | rfl | rfl | rfl | rfl <;> assumption
   rw [hallk i hpos hlt] at hxi; cases hxi
  have n10':i < 10→¬ x[10]? = some true:=fun hlt h10=>by
   have h9:=hcl 10 _ rfl h10 ⟨9,.data⟩ (by simp) rfl
   have h7:=hcl 10 _ rfl h10 ⟨7,.data⟩ (by simp) rfl
   have h8:=hcl 9 _ rfl h9 ⟨8,.data⟩ (by simp) rfl
   have h4:=hcl 7 _ rfl h7 ⟨4,.data⟩ (by simp) rfl
   have h6:=hcl 7 _ rfl h7 ⟨6,.data⟩ (by simp) rfl
   have h0:=hcl 8 _ rfl h8 ⟨0,.data⟩ (by simp) rfl
   have h3:=hcl 4 _ rfl h4 ⟨3,.data⟩ (by simp) rfl
   have h5:=hcl 6 _ rfl h6 ⟨5,.data⟩ (by simp) rfl
   have h2:=hcl 3 _ rfl h3 ⟨2,.data⟩ (by simp) rfl
   have h1:=hcl 2 _ rfl h2 ⟨1,.data⟩ (by simp) rfl
   have hallk:∀ j,j < 10→x[j]? = some true:=fun j hj=>by
    rcases (by omega:j = 0 ∨ j = 1 ∨ j = 2 ∨ j = 3 ∨ j = 4 ∨ j = 5 ∨ j = 6 ∨ j = 7 ∨ j = 8 ∨ j = 9) with rfl | rfl | rfl | rfl | rfl | rfl | rfl | rfl | rfl | rfl <;> assumption
   rw [hallk i hlt] at hxi; cases hxi
  clear hcl hbs
  match i,ho with
  | 0,ho =>
   obtain rfl:=Option.some.inj ho
   clear hall hD
   rw [if_pos (by rfl)]
   unfold Oper.wp
   go_simp
   exact ⟨upd f 0 (.pointer (some ⟨mb,0,none⟩)),by simp [upd],zF (za HD) (by decide) (by decide) (fun _ _ h=>h) (za HBS) rfl⟩
  | 1,ho =>
   obtain rfl:=Option.some.inj ho
   clear hall hD
   rw [if_pos (by rfl)]
   unfold Oper.wp
   go_simp
   exact ⟨upd f 1 (.pointer (some ⟨mb,0,none⟩)),by simp [upd],zF (za HD) (by decide) (by decide) (fun _ _ h=>h) (za HBS) rfl⟩
  | 2,ho =>
   obtain rfl:=Option.some.inj ho
   have g:f 1 = .pointer (some ⟨mb,0,none⟩):=hD 1 (hall ⟨1,.data⟩ (by simp) rfl)
   clear hall hD
   rw [if_pos (by rfl)]
   unfold Oper.wp
   go_simp
   exact ⟨upd f 2 (.pointer (some ⟨mb,0,none⟩)),by simp [upd,g],zF (za HD) (by decide) (by decide) (fun _ _ h=>h) (za HBS) rfl⟩
  | 3,ho =>
   obtain rfl:=Option.some.inj ho
   have g:f 2 = .pointer (some ⟨mb,0,none⟩):=hD 2 (hall ⟨2,.data⟩ (by simp) rfl)
   clear hall hD
   rw [if_pos (by rfl)]
   unfold Oper.wp
   go_simp
   exact ⟨upd f 3 (.pointer (some ⟨mb,11,none⟩)),by simp [upd,g],zF (za HD) (by decide) (by decide) (fun _ _ h=>h) (za HBS) rfl⟩
  | 4,ho =>
   obtain rfl:=Option.some.inj ho
   have g:f 3 = .pointer (some ⟨mb,11,none⟩):=hD 3 (hall ⟨3,.data⟩ (by simp) rfl)
   have n7:=n7' (by omega) (by omega)
   have y1:=cellV mb 11 _ (za HM1) n7
   clear hall hD
   rw [if_pos (by rfl)]
   unfold Oper.wp
   go_simp
   exact ⟨upd f 4 (vo),by simp [upd,g],zF (za HD) (by decide) (by decide) (fun _ _ h=>h) (za HBS) rfl⟩
  | 5,ho =>
   obtain rfl:=Option.some.inj ho
   have n7:=n7' (by omega) (by omega)
   have y0:=cellV w.heap.size 0 _ (za HEB 0 _ rfl) n7
   have y1:=cellV w.heap.size 1 _ (za HEB 1 _ rfl) n7
   have y2:=cellV w.heap.size 2 _ (za HEB 2 _ rfl) n7
   have y3:=cellV w.heap.size 3 _ (za HEB 3 _ rfl) n7
   have y4:=cellV w.heap.size 4 _ (za HEB 4 _ rfl) n7
   have y5:=cellV w.heap.size 5 _ (za HEB 5 _ rfl) n7
   have y6:=cellV w.heap.size 6 _ (za HEB 6 _ rfl) n7
   have y7:=cellV w.heap.size 7 _ (za HEB 7 _ rfl) n7
   have y8:=cellV w.heap.size 8 _ (za HEB 8 _ rfl) n7
   have y9:=cellV w.heap.size 9 _ (za HEB 9 _ rfl) n7
   have y10:=cellV w.heap.size 10 _ (za HEB 10 _ rfl) n7
   have y11:=cellV w.heap.size 11 _ (za HEB 11 _ rfl) n7
   have y12:=cellV w.heap.size 12 _ (za HEB 12 _ rfl) n7
   have y13:=cellV w.heap.size 13 _ (za HEB 13 _ rfl) n7
   clear hall hD
   rw [if_pos (by rfl)]
   unfold Oper.wp
   go_simp
   exact ⟨upd f 5 (.agg #[.int .i64 e.kind,.int .i64 e.cmd.k,.int .i64 e.cmd.s,.int .i64 e.cmd.t,.int .i64 e.cmd.l,.int .i64 e.cmd.q,.int .i64 e.cmd.i,.float .f64 e.cmd.p,.string e.cmd.g,.int .i64 e.id,.int .i64 e.other,.int .i64 e.qty,.int .i64 e.price,.int .i64 e.reason]),by simp [upd],zF (za HD) (by decide) (by decide) (fun _ _ h=>h) (za HBS) rfl⟩
  | 6,ho =>
   obtain rfl:=Option.some.inj ho
   have g:f 5 = .agg #[.int .i64 e.kind,.int .i64 e.cmd.k,.int .i64 e.cmd.s,.int .i64 e.cmd.t,.int .i64 e.cmd.l,.int .i64 e.cmd.q,.int .i64 e.cmd.i,.float .f64 e.cmd.p,.string e.cmd.g,.int .i64 e.id,.int .i64 e.other,.int .i64 e.qty,.int .i64 e.price,.int .i64 e.reason]:=hD 5 (hall ⟨5,.data⟩ (by simp) rfl)
   have n7:=n7' (by omega) (by omega)
   have hbV:=za HBS n7
   have hsf:=sfl
   clear hall hD
   rw [if_pos (by rfl)]
   unfold Oper.wp
   go_simp
   refine ⟨upd f 6 (.slice (some ⟨V.heap.size,0,none⟩) 1 1),by simp [upd,g],zF (za HD) (by decide) (by decide) (de_alloc n7) (fun _=>hbV.alloc hbV.size _) ⟨V.heap.size,rfl,fun _=>?_⟩⟩
   exact fun j u h=>cellsQ V e.vs 43 j u h
  | 7,ho =>
   obtain rfl:=Option.some.inj ho
   have g4:f 4 = vo:=hD 4 (hall ⟨4,.data⟩ (by simp) rfl)
   obtain ⟨s,g6,hcs⟩:=hD 6 (hall ⟨6,.data⟩ (by simp) rfl)
   have n7:¬ x[7]? = some true:=by rw [hxi]; simp
   have n10:=n10' (by omega)
   have hbV:=za HBS n7
   have hrow:ERow V B vo ts:=zI (za HORO) hbV
   rw [if_pos (by rfl)]
   refine wp_append_own V (.tmp 8) (.tmp 10) 36 rfl B 43 i0 _ 14 120 Tryz.underlying36 hi0 hz0 hz1 hz2 rfl (by decide) vo ts.length (ts.flatMap Ev.vs) g4 hrow ⟨s,0,none⟩ 1 1 e.vs g6 rfl (hcs n7) (one_ev e) (by unfold maxLen; omega) (by omega) (by have:=hbV.size; omega) ?_
   intro v' w' hown hgr _
   obtain ⟨ga,gc,rfl⟩:=zce hown (by omega)
   refine ⟨upd f 7 (.slice (some ⟨ga,0,none⟩) (ts.length + 1) gc),rfl,rt_one (by decide) (za HD) hxi n10 (fun j v hj h=>de_one j v hj h) ⟨some ⟨ga,0,none⟩,gc,rfl,trivial,fun _=>⟨?_,?_⟩,fun h=>h.elim⟩⟩
   ·show World.ownsRow _ _ _ _ _ (ts ++ [e]).length _
    rw [List.length_append,List.flatMap_append]; simpa using hown
   ·exact (zaa hbV (Nat.le_refl _)).trans hgr
  | 8,ho =>
   obtain rfl:=Option.some.inj ho
   have g:f 0 = .pointer (some ⟨mb,0,none⟩):=hD 0 (hall ⟨0,.data⟩ (by simp) rfl)
   clear hall hD
   rw [if_pos (by rfl)]
   unfold Oper.wp
   go_simp
   exact ⟨upd f 8 (.pointer (some ⟨mb,0,none⟩)),by simp [upd,g],zF (za HD) (by decide) (by decide) (fun _ _ h=>h) (za HBS) rfl⟩
  | 9,ho =>
   obtain rfl:=Option.some.inj ho
   have g:f 8 = .pointer (some ⟨mb,0,none⟩):=hD 8 (hall ⟨8,.data⟩ (by simp) rfl)
   clear hall hD
   rw [if_pos (by rfl)]
   unfold Oper.wp
   go_simp
   exact ⟨upd f 9 (.pointer (some ⟨mb,11,none⟩)),by simp [upd,g],zF (za HD) (by decide) (by decide) (fun _ _ h=>h) (za HBS) rfl⟩
  | 10,ho =>
   obtain rfl:=Option.some.inj ho
   have g9:f 9 = .pointer (some ⟨mb,11,none⟩):=hD 9 (hall ⟨9,.data⟩ (by simp) rfl)
   have k7:x[7]? = some true:=hall ⟨7,.data⟩ (by simp) rfl
   have n10:¬ x[10]? = some true:=by rw [hxi]; simp
   obtain ⟨ga,gc,g7,-,hfa,-⟩:=hD 7 k7
   obtain ⟨her,hgr⟩:=hfa n10
   have y1:=hgr.cell (za HM1) hnq
   have f1:V.frozen? ⟨mb,11,none⟩ = false:=(World.frozen?_of_block (a:=⟨mb,11,none⟩) (hgr.block mb hmX hnq)).trans (za HF1)
   have HER:=hide (g7 ▸ her)
   have HBXV:Hid (∃ cur,V.heap[mb]? = some (.cells cur 69 (0,0))):=by obtain ⟨cur,hc⟩:=za HBX; exact ⟨cur,(hgr.block mb hmX hnq).trans hc⟩
   have HGR:=hide hgr
   clear hall hD her hgr hfa
   rw [if_pos (by rfl)]
   unfold Oper.wp
   go_simp
   refine ⟨upd f 10 undef,by simp [upd,g9,g7],rt_two (by decide) (za HD) k7 hxi (fun j hj hxj h=>de_two j hj h (fun hj7=>?_)) trivial⟩
   subst hj7
   obtain ⟨-,-,-,-,-,-⟩:=h
   refine ⟨ga,gc,g7,trivial,fun h=>absurd trivial h,fun _=>?_⟩
   rw [g7]
   refine ⟨World.cell?_setCell_same _ _ _ y1,zt (za HER) (zj (za HER) (za HBXV) (by decide)) 11 _,?_⟩
   exact zas (zaj (za HGR) hmX hnq) (zbK (o:=10) _ _)
  | i + 11,ho=>simp at ho
structure Tot where
 gr:Int
 ac:Int
 rf:Int
 tr:Int
 vo:Int
 no:Int
 li:Int
 le:Int
def Tot.vs (t:Tot):List Value:=[.int .i64 t.gr,.int .i64 t.ac,.int .i64 t.rf,.int .i64 t.tr,.int .i64 t.vo,.int .i64 t.no,.int .i64 t.li,.int .i64 t.le]
def cntE (t:Tot) (e:Ev):Tot :=
 if e.kind = 1 then { t with ac:=wrap64 (t.ac + 1) } else if e.kind = 2 then { t with rf:=wrap64 (t.rf + 1) }
 else if e.kind = 3 then { t with tr:=wrap64 (t.tr + 1),vo:=wrap64 (t.vo + e.qty),no:=wrap64 (t.no + wrap64 (e.qty * e.price)) } else t
def wgT (t:Tot) (ts:List Ev):Tot:=ts.foldl cntE { t with gr:=wrap64 (t.gr + 1) }
theorem wg_step (t:Tot) (ts:List Ev) {k:Nat} {e:Ev} (h:ts[k]? = some e):wgT t (ts.take (k + 1)) = cntE (wgT t (ts.take k)) e:=by
 unfold wgT
 rw [List.take_add_one,h,List.foldl_append]; rfl
theorem zaP {W:World} {b j:Nat} {cs:List Value} {u:Value} (h:W.rangeAt b 0 cs) (hj:j < cs.length):(W.setCell ⟨b,j,none⟩ u).rangeAt b 0 (cs.set j u):=by
 intro i v hi
 rw [Nat.zero_add]
 by_cases hij:j = i
 ·subst hij
  rw [List.getElem?_set_self hj] at hi
  cases hi
  have:=h j _ (List.getElem?_eq_getElem hj)
  rw [Nat.zero_add] at this
  exact World.cell?_setCell_same _ _ _ this
 ·rw [List.getElem?_set_ne hij] at hi
  have:=h i v hi
  rw [Nat.zero_add] at this
  exact (World.cell?_setCell_other _ _ _ _ (zX hij)).trans this
theorem keep8 {w W:World} {S:Nat} {cs:List Value} (h:W.rangeAt S 0 cs∧W.there S 0 8∧W.there (S + 1) 0 8∧Below S w W∧S + 1 + 1 ≤ W.heap.size) (j:Nat) (hj:j < cs.length) (u:Value):(W.setCell ⟨S,j,none⟩ u).rangeAt S 0 (cs.set j u)∧(W.setCell ⟨S,j,none⟩ u).there S 0 8∧(W.setCell ⟨S,j,none⟩ u).there (S + 1) 0 8∧Below S w (W.setCell ⟨S,j,none⟩ u)∧S + 1 + 1 ≤ (W.setCell ⟨S,j,none⟩ u).heap.size :=
 ⟨zaP h.1 hj,zC h.2.1,zC h.2.2.1,h.2.2.2.1.setCell (p:=⟨S,j,none⟩) (Nat.le_refl _) _,by simp only [World.setCell,Array.size_modify]; exact h.2.2.2.2⟩
theorem zal {W:World} {b o:Nat} {e:Ev} (h:W.rangeAt b o e.vs):W.cell? ⟨b,o,none⟩ = some (.int .i64 e.kind)∧W.cell? ⟨b,o + 1,none⟩ = some (.int .i64 e.cmd.k)∧W.cell? ⟨b,o + 2,none⟩ = some (.int .i64 e.cmd.s)∧W.cell? ⟨b,o + 3,none⟩ = some (.int .i64 e.cmd.t)∧W.cell? ⟨b,o + 4,none⟩ = some (.int .i64 e.cmd.l)∧W.cell? ⟨b,o + 5,none⟩ = some (.int .i64 e.cmd.q)∧W.cell? ⟨b,o + 6,none⟩ = some (.int .i64 e.cmd.i)∧W.cell? ⟨b,o + 7,none⟩ = some (.float .f64 e.cmd.p)∧W.cell? ⟨b,o + 8,none⟩ = some (.string e.cmd.g)∧W.cell? ⟨b,o + 9,none⟩ = some (.int .i64 e.id)∧W.cell? ⟨b,o + 10,none⟩ = some (.int .i64 e.other)∧W.cell? ⟨b,o + 11,none⟩ = some (.int .i64 e.qty)∧W.cell? ⟨b,o + 12,none⟩ = some (.int .i64 e.price)∧W.cell? ⟨b,o + 13,none⟩ = some (.int .i64 e.reason):=⟨h 0 _ rfl,h 1 _ rfl,h 2 _ rfl,h 3 _ rfl,h 4 _ rfl,h 5 _ rfl,h 6 _ rfl,h 7 _ rfl,h 8 _ rfl,h 9 _ rfl,h 10 _ rfl,h 11 _ rfl,h 12 _ rfl,h 13 _ rfl⟩
set_option maxRecDepth 100000 in
set_option maxHeartbeats 3200000 in
theorem withGroup_any (t:Tot) (v:Value) (ts:List Ev) (w:World) (hr:RdR Ev.vs 14 w v ts) :
  Calls Tryz.prog 64 #[.agg #[.int .i64 t.gr,.int .i64 t.ac,.int .i64 t.rf,.int .i64 t.tr,.int .i64 t.vo,.int .i64 t.no,.int .i64 t.li,.int .i64 t.le],v] w fun r w'=>r = .returned (.agg #[.int .i64 (wgT t ts).gr,.int .i64 (wgT t ts).ac,.int .i64 (wgT t ts).rf,.int .i64 (wgT t ts).tr,.int .i64 (wgT t ts).vo,.int .i64 (wgT t ts).no,.int .i64 (wgT t ts).li,.int .i64 (wgT t ts).le])∧Below w.heap.size w w':=by
 obtain ⟨a,cap,rfl,hlen,hc⟩:=hr
 have hcell:∀ (k:Nat) (c:Ev),ts[k]? = some c→∃ b off,a = some ⟨b,off,none⟩∧b < w.heap.size∧w.rangeAt b (off + k * 14) c.vs:=by
  intro k c hk
  obtain ⟨b,off,h1,h2,h3⟩:=hc (by intro h; rw [h] at hk; simp at hk)
  exact ⟨b,off,h1,h2,h3 k c hk⟩
 have HC:=hide hcell
 clear hcell hc
 have hsf:=sfl
 have hs1:(w.alloc (Obj.cells #[.int .i64 t.gr,.int .i64 t.ac,.int .i64 t.rf,.int .i64 t.tr,.int .i64 t.vo,.int .i64 t.no,.int .i64 t.li,.int .i64 t.le] 25)).heap.size = w.heap.size + 1:=ze _ _
 have hs2:((w.alloc (Obj.cells #[.int .i64 t.gr,.int .i64 t.ac,.int .i64 t.rf,.int .i64 t.tr,.int .i64 t.vo,.int .i64 t.no,.int .i64 t.li,.int .i64 t.le] 25)).alloc (Obj.cells #[.int .i64 0,.int .i64 0,.int .i64 0,.int .i64 0,.int .i64 0,.int .i64 0,.int .i64 0,.int .i64 0] 25)).heap.size = w.heap.size + 1 + 1:=by rw [ze,hs1]
 have r1:=zh w [.int .i64 t.gr,.int .i64 t.ac,.int .i64 t.rf,.int .i64 t.tr,.int .i64 t.vo,.int .i64 t.no,.int .i64 t.li,.int .i64 t.le] 25
 have t1:=zw w [.int .i64 t.gr,.int .i64 t.ac,.int .i64 t.rf,.int .i64 t.tr,.int .i64 t.vo,.int .i64 t.no,.int .i64 t.li,.int .i64 t.le] 25
 have t2:=zw (w.alloc (Obj.cells #[.int .i64 t.gr,.int .i64 t.ac,.int .i64 t.rf,.int .i64 t.tr,.int .i64 t.vo,.int .i64 t.no,.int .i64 t.li,.int .i64 t.le] 25)) [.int .i64 0,.int .i64 0,.int .i64 0,.int .i64 0,.int .i64 0,.int .i64 0,.int .i64 0,.int .i64 0] 25
 rw [hs1] at t2
 have b1:Below w.heap.size w (w.alloc (Obj.cells #[.int .i64 t.gr,.int .i64 t.ac,.int .i64 t.rf,.int .i64 t.tr,.int .i64 t.vo,.int .i64 t.no,.int .i64 t.li,.int .i64 t.le] 25)):=(Below.refl _ _).alloc (Nat.le_refl _) _
 have b2:Below (w.heap.size + 1) (w.alloc (Obj.cells #[.int .i64 t.gr,.int .i64 t.ac,.int .i64 t.rf,.int .i64 t.tr,.int .i64 t.vo,.int .i64 t.no,.int .i64 t.li,.int .i64 t.le] 25)) ((w.alloc (Obj.cells #[.int .i64 t.gr,.int .i64 t.ac,.int .i64 t.rf,.int .i64 t.tr,.int .i64 t.vo,.int .i64 t.no,.int .i64 t.li,.int .i64 t.le] 25)).alloc (Obj.cells #[.int .i64 0,.int .i64 0,.int .i64 0,.int .i64 0,.int .i64 0,.int .i64 0,.int .i64 0,.int .i64 0] 25)):=(Below.refl _ _).alloc (by omega) _
 have HX:Hid (_∧_∧_):=⟨zb r1 b2 (by omega),zf t1 b2 (by omega),t2⟩
 have HB:=hide (b1.trans (b2.mono (by omega)))
 have HS:=hide hs2
 clear hs1 hs2 r1 t1 t2 b1 b2
 go_enter Tryz.func64,Tryz.ntmps64
 refine wp_seq_k fun K hK=>?_
 have HK1:=hide hK
 clear hK
 go_wp2_with fail
 refine za HK1 _ _ ?_
 clear HK1
 generalize ((w.alloc (Obj.cells #[.int .i64 t.gr,.int .i64 t.ac,.int .i64 t.rf,.int .i64 t.tr,.int .i64 t.vo,.int .i64 t.no,.int .i64 t.li,.int .i64 t.le] 25)).alloc (Obj.cells #[.int .i64 0,.int .i64 0,.int .i64 0,.int .i64 0,.int .i64 0,.int .i64 0,.int .i64 0,.int .i64 0] 25)) = X at HX HB HS ⊢
 have HX:Hid (X.rangeAt w.heap.size 0 [.int .i64 t.gr,.int .i64 t.ac,.int .i64 t.rf,.int .i64 t.tr,.int .i64 t.vo,.int .i64 t.no,.int .i64 t.li,.int .i64 t.le]∧X.there w.heap.size 0 8∧X.there (w.heap.size + 1) 0 8):=za HX
 have c0:X.cell? ⟨w.heap.size,0,none⟩ = some (.int .i64 t.gr):=(za HX).1 0 _ rfl
 obtain ⟨y0,z0,q0⟩:=zc (za HX).2.1 (j:=0) (by omega)
 clear z0 y0
 refine wp_seq_k fun K hK=>?_
 have HK1:=hide hK
 clear hK
 go_wp2_with fail
 refine za HK1 _ _ ?_
 clear HK1
 have HST:Hid (World.rangeAt (X.setCell ⟨w.heap.size,0,none⟩ (.int .i64 (wrap64 (t.gr + 1)))) w.heap.size 0 (wgT t (ts.take 0)).vs∧World.there (X.setCell ⟨w.heap.size,0,none⟩ (.int .i64 (wrap64 (t.gr + 1)))) w.heap.size 0 8∧World.there (X.setCell ⟨w.heap.size,0,none⟩ (.int .i64 (wrap64 (t.gr + 1)))) (w.heap.size + 1) 0 8∧Below w.heap.size w (X.setCell ⟨w.heap.size,0,none⟩ (.int .i64 (wrap64 (t.gr + 1))))∧(X.setCell ⟨w.heap.size,0,none⟩ (.int .i64 (wrap64 (t.gr + 1)))).heap.size = w.heap.size + 1 + 1):=by
  refine ⟨?_,zC (za HX).2.1,zC (za HX).2.2,(za HB).setCell (p:=⟨w.heap.size,0,none⟩) (Nat.le_refl _) _,by simp [World.setCell]; exact za HS⟩
  intro j u hj
  rw [Nat.zero_add]
  match j,hj with
  | 0,hj=>cases hj; exact World.cell?_setCell_same _ _ _ c0
  | 1,hj=>cases hj; exact (World.cell?_setCell_other _ _ _ _ (zX (by omega))).trans ((za HX).1 1 _ rfl)
  | 2,hj=>cases hj; exact (World.cell?_setCell_other _ _ _ _ (zX (by omega))).trans ((za HX).1 2 _ rfl)
  | 3,hj=>cases hj; exact (World.cell?_setCell_other _ _ _ _ (zX (by omega))).trans ((za HX).1 3 _ rfl)
  | 4,hj=>cases hj; exact (World.cell?_setCell_other _ _ _ _ (zX (by omega))).trans ((za HX).1 4 _ rfl)
  | 5,hj=>cases hj; exact (World.cell?_setCell_other _ _ _ _ (zX (by omega))).trans ((za HX).1 5 _ rfl)
  | 6,hj=>cases hj; exact (World.cell?_setCell_other _ _ _ _ (zX (by omega))).trans ((za HX).1 6 _ rfl)
  | 7,hj=>cases hj; exact (World.cell?_setCell_other _ _ _ _ (zX (by omega))).trans ((za HX).1 7 _ rfl)
  | j + 8,hj=>simp [Tot.vs] at hj
 have HSU:Hid (_∧_∧_∧_∧_):=⟨(za HST).1,(za HST).2.1,(za HST).2.2.1,(za HST).2.2.2.1,Nat.le_of_eq (za HST).2.2.2.2.symm⟩
 generalize (X.setCell ⟨w.heap.size,0,none⟩ (.int .i64 (wrap64 (t.gr + 1)))) = X1 at HST HSU ⊢
 clear c0 q0 HX HB HS HST
 go_wp2_with fail
 go_loopw [13] (fun iv wr=>∃ (k:Nat),k ≤ ts.length∧iv = .int .i64 k∧Hid (wr.rangeAt w.heap.size 0 (wgT t (ts.take k)).vs∧wr.there w.heap.size 0 8∧wr.there (w.heap.size + 1) 0 8∧Below w.heap.size w wr∧w.heap.size + 1 + 1 ≤ wr.heap.size)) (fun iv _=>ts.length - (intOf iv).toNat)
 case atStart=>exact ⟨0,Nat.zero_le _,rfl,za HSU⟩
 case round =>
  obtain ⟨k,hk,rfl,hin⟩:=hrel
  by_cases hlt:k < ts.length
  ·obtain ⟨e,hke⟩:∃ e,ts[k]? = some e:=⟨_,List.getElem?_eq_getElem hlt⟩
   obtain ⟨b,off,rfl,hb,hcl⟩:=za HC k e hke
   have HNX:=hide (wg_step t ts hke)
   have hlt':(k:Int) < ts.length:=by omega
   have hse:=(za hin).2.2.2.2
   obtain ⟨g0,g1,g2,g3,g4,g5,g6,g7,g8,g9,g10,g11,g12,g13⟩:=zal (zb hcl (za hin).2.2.2.1 hb)
   have hbY:Below wr.heap.size wr (wr.alloc (Obj.cells #[.int .i64 e.kind,.int .i64 e.cmd.k,.int .i64 e.cmd.s,.int .i64 e.cmd.t,.int .i64 e.cmd.l,.int .i64 e.cmd.q,.int .i64 e.cmd.i,.float .f64 e.cmd.p,.string e.cmd.g,.int .i64 e.id,.int .i64 e.other,.int .i64 e.qty,.int .i64 e.price,.int .i64 e.reason] 43)):=(Below.refl _ _).alloc (Nat.le_refl _) _
   have HY:Hid (World.rangeAt (wr.alloc (Obj.cells #[.int .i64 e.kind,.int .i64 e.cmd.k,.int .i64 e.cmd.s,.int .i64 e.cmd.t,.int .i64 e.cmd.l,.int .i64 e.cmd.q,.int .i64 e.cmd.i,.float .f64 e.cmd.p,.string e.cmd.g,.int .i64 e.id,.int .i64 e.other,.int .i64 e.qty,.int .i64 e.price,.int .i64 e.reason] 43)) w.heap.size 0 (wgT t (ts.take k)).vs∧World.there (wr.alloc (Obj.cells #[.int .i64 e.kind,.int .i64 e.cmd.k,.int .i64 e.cmd.s,.int .i64 e.cmd.t,.int .i64 e.cmd.l,.int .i64 e.cmd.q,.int .i64 e.cmd.i,.float .f64 e.cmd.p,.string e.cmd.g,.int .i64 e.id,.int .i64 e.other,.int .i64 e.qty,.int .i64 e.price,.int .i64 e.reason] 43)) w.heap.size 0 8∧World.there (wr.alloc (Obj.cells #[.int .i64 e.kind,.int .i64 e.cmd.k,.int .i64 e.cmd.s,.int .i64 e.cmd.t,.int .i64 e.cmd.l,.int .i64 e.cmd.q,.int .i64 e.cmd.i,.float .f64 e.cmd.p,.string e.cmd.g,.int .i64 e.id,.int .i64 e.other,.int .i64 e.qty,.int .i64 e.price,.int .i64 e.reason] 43)) (w.heap.size + 1) 0 8∧Below w.heap.size w (wr.alloc (Obj.cells #[.int .i64 e.kind,.int .i64 e.cmd.k,.int .i64 e.cmd.s,.int .i64 e.cmd.t,.int .i64 e.cmd.l,.int .i64 e.cmd.q,.int .i64 e.cmd.i,.float .f64 e.cmd.p,.string e.cmd.g,.int .i64 e.id,.int .i64 e.other,.int .i64 e.qty,.int .i64 e.price,.int .i64 e.reason] 43))∧w.heap.size + 1 + 1 ≤ (wr.alloc (Obj.cells #[.int .i64 e.kind,.int .i64 e.cmd.k,.int .i64 e.cmd.s,.int .i64 e.cmd.t,.int .i64 e.cmd.l,.int .i64 e.cmd.q,.int .i64 e.cmd.i,.float .f64 e.cmd.p,.string e.cmd.g,.int .i64 e.id,.int .i64 e.other,.int .i64 e.qty,.int .i64 e.price,.int .i64 e.reason] 43)).heap.size):=⟨zb (za hin).1 hbY (by omega),zf (za hin).2.1 hbY (by omega),zf (za hin).2.2.1 hbY (by omega),(za hin).2.2.2.1.trans (hbY.mono (by omega)),Nat.le_trans hse hbY.size⟩
   generalize wgT t (ts.take k) = T at HNX HY
   obtain ⟨tgr,tac,trf,ttr,tvo,tno,tli,tle⟩:=T
   have hne:w.heap.size ≠ wr.heap.size:=by omega
   have hne':wr.heap.size ≠ w.heap.size:=by omega
   have d0:(wr.alloc (Obj.cells #[.int .i64 e.kind,.int .i64 e.cmd.k,.int .i64 e.cmd.s,.int .i64 e.cmd.t,.int .i64 e.cmd.l,.int .i64 e.cmd.q,.int .i64 e.cmd.i,.float .f64 e.cmd.p,.string e.cmd.g,.int .i64 e.id,.int .i64 e.other,.int .i64 e.qty,.int .i64 e.price,.int .i64 e.reason] 43)).cell? ⟨w.heap.size,0,none⟩ = some (.int .i64 tgr):=(za HY).1 0 _ rfl
   have p0:(wr.alloc (Obj.cells #[.int .i64 e.kind,.int .i64 e.cmd.k,.int .i64 e.cmd.s,.int .i64 e.cmd.t,.int .i64 e.cmd.l,.int .i64 e.cmd.q,.int .i64 e.cmd.i,.float .f64 e.cmd.p,.string e.cmd.g,.int .i64 e.id,.int .i64 e.other,.int .i64 e.qty,.int .i64 e.price,.int .i64 e.reason] 43)).frozen? ⟨w.heap.size,0,none⟩ = false:=by have:=((za HY).2.1 0 (by omega)).2; rwa [Nat.zero_add] at this
   have d1:(wr.alloc (Obj.cells #[.int .i64 e.kind,.int .i64 e.cmd.k,.int .i64 e.cmd.s,.int .i64 e.cmd.t,.int .i64 e.cmd.l,.int .i64 e.cmd.q,.int .i64 e.cmd.i,.float .f64 e.cmd.p,.string e.cmd.g,.int .i64 e.id,.int .i64 e.other,.int .i64 e.qty,.int .i64 e.price,.int .i64 e.reason] 43)).cell? ⟨w.heap.size,1,none⟩ = some (.int .i64 tac):=(za HY).1 1 _ rfl
   have p1:(wr.alloc (Obj.cells #[.int .i64 e.kind,.int .i64 e.cmd.k,.int .i64 e.cmd.s,.int .i64 e.cmd.t,.int .i64 e.cmd.l,.int .i64 e.cmd.q,.int .i64 e.cmd.i,.float .f64 e.cmd.p,.string e.cmd.g,.int .i64 e.id,.int .i64 e.other,.int .i64 e.qty,.int .i64 e.price,.int .i64 e.reason] 43)).frozen? ⟨w.heap.size,1,none⟩ = false:=by have:=((za HY).2.1 1 (by omega)).2; rwa [Nat.zero_add] at this
   have d2:(wr.alloc (Obj.cells #[.int .i64 e.kind,.int .i64 e.cmd.k,.int .i64 e.cmd.s,.int .i64 e.cmd.t,.int .i64 e.cmd.l,.int .i64 e.cmd.q,.int .i64 e.cmd.i,.float .f64 e.cmd.p,.string e.cmd.g,.int .i64 e.id,.int .i64 e.other,.int .i64 e.qty,.int .i64 e.price,.int .i64 e.reason] 43)).cell? ⟨w.heap.size,2,none⟩ = some (.int .i64 trf):=(za HY).1 2 _ rfl
   have p2:(wr.alloc (Obj.cells #[.int .i64 e.kind,.int .i64 e.cmd.k,.int .i64 e.cmd.s,.int .i64 e.cmd.t,.int .i64 e.cmd.l,.int .i64 e.cmd.q,.int .i64 e.cmd.i,.float .f64 e.cmd.p,.string e.cmd.g,.int .i64 e.id,.int .i64 e.other,.int .i64 e.qty,.int .i64 e.price,.int .i64 e.reason] 43)).frozen? ⟨w.heap.size,2,none⟩ = false:=by have:=((za HY).2.1 2 (by omega)).2; rwa [Nat.zero_add] at this
   have d3:(wr.alloc (Obj.cells #[.int .i64 e.kind,.int .i64 e.cmd.k,.int .i64 e.cmd.s,.int .i64 e.cmd.t,.int .i64 e.cmd.l,.int .i64 e.cmd.q,.int .i64 e.cmd.i,.float .f64 e.cmd.p,.string e.cmd.g,.int .i64 e.id,.int .i64 e.other,.int .i64 e.qty,.int .i64 e.price,.int .i64 e.reason] 43)).cell? ⟨w.heap.size,3,none⟩ = some (.int .i64 ttr):=(za HY).1 3 _ rfl
   have p3:(wr.alloc (Obj.cells #[.int .i64 e.kind,.int .i64 e.cmd.k,.int .i64 e.cmd.s,.int .i64 e.cmd.t,.int .i64 e.cmd.l,.int .i64 e.cmd.q,.int .i64 e.cmd.i,.float .f64 e.cmd.p,.string e.cmd.g,.int .i64 e.id,.int .i64 e.other,.int .i64 e.qty,.int .i64 e.price,.int .i64 e.reason] 43)).frozen? ⟨w.heap.size,3,none⟩ = false:=by have:=((za HY).2.1 3 (by omega)).2; rwa [Nat.zero_add] at this
   have d4:(wr.alloc (Obj.cells #[.int .i64 e.kind,.int .i64 e.cmd.k,.int .i64 e.cmd.s,.int .i64 e.cmd.t,.int .i64 e.cmd.l,.int .i64 e.cmd.q,.int .i64 e.cmd.i,.float .f64 e.cmd.p,.string e.cmd.g,.int .i64 e.id,.int .i64 e.other,.int .i64 e.qty,.int .i64 e.price,.int .i64 e.reason] 43)).cell? ⟨w.heap.size,4,none⟩ = some (.int .i64 tvo):=(za HY).1 4 _ rfl
   have p4:(wr.alloc (Obj.cells #[.int .i64 e.kind,.int .i64 e.cmd.k,.int .i64 e.cmd.s,.int .i64 e.cmd.t,.int .i64 e.cmd.l,.int .i64 e.cmd.q,.int .i64 e.cmd.i,.float .f64 e.cmd.p,.string e.cmd.g,.int .i64 e.id,.int .i64 e.other,.int .i64 e.qty,.int .i64 e.price,.int .i64 e.reason] 43)).frozen? ⟨w.heap.size,4,none⟩ = false:=by have:=((za HY).2.1 4 (by omega)).2; rwa [Nat.zero_add] at this
   have d5:(wr.alloc (Obj.cells #[.int .i64 e.kind,.int .i64 e.cmd.k,.int .i64 e.cmd.s,.int .i64 e.cmd.t,.int .i64 e.cmd.l,.int .i64 e.cmd.q,.int .i64 e.cmd.i,.float .f64 e.cmd.p,.string e.cmd.g,.int .i64 e.id,.int .i64 e.other,.int .i64 e.qty,.int .i64 e.price,.int .i64 e.reason] 43)).cell? ⟨w.heap.size,5,none⟩ = some (.int .i64 tno):=(za HY).1 5 _ rfl
   have p5:(wr.alloc (Obj.cells #[.int .i64 e.kind,.int .i64 e.cmd.k,.int .i64 e.cmd.s,.int .i64 e.cmd.t,.int .i64 e.cmd.l,.int .i64 e.cmd.q,.int .i64 e.cmd.i,.float .f64 e.cmd.p,.string e.cmd.g,.int .i64 e.id,.int .i64 e.other,.int .i64 e.qty,.int .i64 e.price,.int .i64 e.reason] 43)).frozen? ⟨w.heap.size,5,none⟩ = false:=by have:=((za HY).2.1 5 (by omega)).2; rwa [Nat.zero_add] at this
   have d6:(wr.alloc (Obj.cells #[.int .i64 e.kind,.int .i64 e.cmd.k,.int .i64 e.cmd.s,.int .i64 e.cmd.t,.int .i64 e.cmd.l,.int .i64 e.cmd.q,.int .i64 e.cmd.i,.float .f64 e.cmd.p,.string e.cmd.g,.int .i64 e.id,.int .i64 e.other,.int .i64 e.qty,.int .i64 e.price,.int .i64 e.reason] 43)).cell? ⟨w.heap.size,6,none⟩ = some (.int .i64 tli):=(za HY).1 6 _ rfl
   have p6:(wr.alloc (Obj.cells #[.int .i64 e.kind,.int .i64 e.cmd.k,.int .i64 e.cmd.s,.int .i64 e.cmd.t,.int .i64 e.cmd.l,.int .i64 e.cmd.q,.int .i64 e.cmd.i,.float .f64 e.cmd.p,.string e.cmd.g,.int .i64 e.id,.int .i64 e.other,.int .i64 e.qty,.int .i64 e.price,.int .i64 e.reason] 43)).frozen? ⟨w.heap.size,6,none⟩ = false:=by have:=((za HY).2.1 6 (by omega)).2; rwa [Nat.zero_add] at this
   have d7:(wr.alloc (Obj.cells #[.int .i64 e.kind,.int .i64 e.cmd.k,.int .i64 e.cmd.s,.int .i64 e.cmd.t,.int .i64 e.cmd.l,.int .i64 e.cmd.q,.int .i64 e.cmd.i,.float .f64 e.cmd.p,.string e.cmd.g,.int .i64 e.id,.int .i64 e.other,.int .i64 e.qty,.int .i64 e.price,.int .i64 e.reason] 43)).cell? ⟨w.heap.size,7,none⟩ = some (.int .i64 tle):=(za HY).1 7 _ rfl
   have p7:(wr.alloc (Obj.cells #[.int .i64 e.kind,.int .i64 e.cmd.k,.int .i64 e.cmd.s,.int .i64 e.cmd.t,.int .i64 e.cmd.l,.int .i64 e.cmd.q,.int .i64 e.cmd.i,.float .f64 e.cmd.p,.string e.cmd.g,.int .i64 e.id,.int .i64 e.other,.int .i64 e.qty,.int .i64 e.price,.int .i64 e.reason] 43)).frozen? ⟨w.heap.size,7,none⟩ = false:=by have:=((za HY).2.1 7 (by omega)).2; rwa [Nat.zero_add] at this
   clear hke hcl hb hbY
   by_cases h1:e.kind = 1
   ·have b1:(e.kind == 1) = true:=by simpa using h1
    have HN:Hid (wgT t (ts.take (k + 1)) = ⟨tgr,wrap64 (tac + 1),trf,ttr,tvo,tno,tli,tle⟩):=(za HNX).trans (if_pos h1)
    clear h1
    go_wp2_with fail
    go_roundw
    case rel=>exact ⟨k + 1,by omega,by go_num,by rw [za HN]; exact keep8 (za HY) 1 (by simp [Tot.vs]) _⟩
    case measure=>simp [intOf]; omega
   have b1:(e.kind == 1) = false:=by rw [beq_eq_false_iff_ne]; exact h1
   by_cases h2:e.kind = 2
   ·have b2:(e.kind == 2) = true:=by simpa using h2
    have HN:Hid (wgT t (ts.take (k + 1)) = ⟨tgr,tac,wrap64 (trf + 1),ttr,tvo,tno,tli,tle⟩):=(za HNX).trans ((if_neg h1).trans (if_pos h2))
    clear h1 h2
    go_wp2_with fail
    go_roundw
    case rel=>exact ⟨k + 1,by omega,by go_num,by rw [za HN]; exact keep8 (za HY) 2 (by simp [Tot.vs]) _⟩
    case measure=>simp [intOf]; omega
   have b2:(e.kind == 2) = false:=by rw [beq_eq_false_iff_ne]; exact h2
   by_cases h3:e.kind = 3
   ·have b3:(e.kind == 3) = true:=by simpa using h3
    have HN:Hid (wgT t (ts.take (k + 1)) = ⟨tgr,tac,trf,wrap64 (ttr + 1),wrap64 (tvo + e.qty),wrap64 (tno + wrap64 (e.qty * e.price)),tli,tle⟩):=(za HNX).trans ((if_neg h1).trans ((if_neg h2).trans (if_pos h3)))
    clear h1 h2 h3
    go_wp2_with fail
    go_roundw
    case rel=>exact ⟨k + 1,by omega,by go_num,by rw [za HN]; exact keep8 (keep8 (keep8 (za HY) 3 (by simp [Tot.vs]) _) 4 (by simp [Tot.vs]) _) 5 (by simp [Tot.vs]) _⟩
    case measure=>simp [intOf]; omega
   ·have b3:(e.kind == 3) = false:=by rw [beq_eq_false_iff_ne]; exact h3
    have HN:Hid (wgT t (ts.take (k + 1)) = ⟨tgr,tac,trf,ttr,tvo,tno,tli,tle⟩):=(za HNX).trans ((if_neg h1).trans ((if_neg h2).trans (if_neg h3)))
    clear h1 h2 h3
    go_wp2_with fail
    go_roundw
    case rel=>exact ⟨k + 1,by omega,by go_num,by rw [za HN]; exact za HY⟩
    case measure=>simp [intOf]; omega
  ·have hlt':¬ (k:Int) < ts.length:=by omega
   rw [List.take_of_length_le (by omega)] at hin
   generalize hT:wgT t ts = T at hin
   have HTT:=hide hT
   have HY:=hide (za hin)
   clear hT
   obtain ⟨tgr,tac,trf,ttr,tvo,tno,tli,tle⟩:=T
   have c0:wr.cell? ⟨w.heap.size,0,none⟩ = some (.int .i64 tgr):=(za HY).1 0 _ rfl
   obtain ⟨y0,z0,q0⟩:=zc (za HY).2.2.1 (j:=0) (by omega)
   have c1:wr.cell? ⟨w.heap.size,1,none⟩ = some (.int .i64 tac):=(za HY).1 1 _ rfl
   obtain ⟨y1,z1,q1⟩:=zc (za HY).2.2.1 (j:=1) (by omega)
   have c2:wr.cell? ⟨w.heap.size,2,none⟩ = some (.int .i64 trf):=(za HY).1 2 _ rfl
   obtain ⟨y2,z2,q2⟩:=zc (za HY).2.2.1 (j:=2) (by omega)
   have c3:wr.cell? ⟨w.heap.size,3,none⟩ = some (.int .i64 ttr):=(za HY).1 3 _ rfl
   obtain ⟨y3,z3,q3⟩:=zc (za HY).2.2.1 (j:=3) (by omega)
   have c4:wr.cell? ⟨w.heap.size,4,none⟩ = some (.int .i64 tvo):=(za HY).1 4 _ rfl
   obtain ⟨y4,z4,q4⟩:=zc (za HY).2.2.1 (j:=4) (by omega)
   have c5:wr.cell? ⟨w.heap.size,5,none⟩ = some (.int .i64 tno):=(za HY).1 5 _ rfl
   obtain ⟨y5,z5,q5⟩:=zc (za HY).2.2.1 (j:=5) (by omega)
   have c6:wr.cell? ⟨w.heap.size,6,none⟩ = some (.int .i64 tli):=(za HY).1 6 _ rfl
   obtain ⟨y6,z6,q6⟩:=zc (za HY).2.2.1 (j:=6) (by omega)
   have c7:wr.cell? ⟨w.heap.size,7,none⟩ = some (.int .i64 tle):=(za HY).1 7 _ rfl
   obtain ⟨y7,z7,q7⟩:=zc (za HY).2.2.1 (j:=7) (by omega)
   have HR8:=hide (World.rangeAt_setCells_same wr (w.heap.size + 1) 0 [.int .i64 tgr,.int .i64 tac,.int .i64 trf,.int .i64 ttr,.int .i64 tvo,.int .i64 tno,.int .i64 tli,.int .i64 tle] (fun j hj=>(za HY).2.2.1 j hj))
   have HB8:=hide (zm (w.heap.size + 1) (by omega) [.int .i64 tgr,.int .i64 tac,.int .i64 trf,.int .i64 ttr,.int .i64 tvo,.int .i64 tno,.int .i64 tli,.int .i64 tle] 0 wr (za HY).2.2.2.1)
   clear hin
   go_wp2_with fail
   change bodyPost _ _ _ _ _ (wr.setCells (w.heap.size + 1) 0 [.int .i64 tgr,.int .i64 tac,.int .i64 trf,.int .i64 ttr,.int .i64 tvo,.int .i64 tno,.int .i64 tli,.int .i64 tle])
   generalize wr.setCells (w.heap.size + 1) 0 [.int .i64 tgr,.int .i64 tac,.int .i64 trf,.int .i64 ttr,.int .i64 tvo,.int .i64 tno,.int .i64 tli,.int .i64 tle] = WE at HR8 HB8 ⊢
   have d0:WE.cell? ⟨w.heap.size + 1,0,none⟩ = some (.int .i64 tgr):=za HR8 0 _ rfl
   have d1:WE.cell? ⟨w.heap.size + 1,1,none⟩ = some (.int .i64 tac):=za HR8 1 _ rfl
   have d2:WE.cell? ⟨w.heap.size + 1,2,none⟩ = some (.int .i64 trf):=za HR8 2 _ rfl
   have d3:WE.cell? ⟨w.heap.size + 1,3,none⟩ = some (.int .i64 ttr):=za HR8 3 _ rfl
   have d4:WE.cell? ⟨w.heap.size + 1,4,none⟩ = some (.int .i64 tvo):=za HR8 4 _ rfl
   have d5:WE.cell? ⟨w.heap.size + 1,5,none⟩ = some (.int .i64 tno):=za HR8 5 _ rfl
   have d6:WE.cell? ⟨w.heap.size + 1,6,none⟩ = some (.int .i64 tli):=za HR8 6 _ rfl
   have d7:WE.cell? ⟨w.heap.size + 1,7,none⟩ = some (.int .i64 tle):=za HR8 7 _ rfl
   try simp only [Exit.inBlock,Exit.then]
   refine bodyPost_ret (by simp [results,Tryz.results64,go_sem,d0,d1,d2,d3,d4,d5,d6,d7]; try rfl) rfl ?_
   exact ⟨by rw [za HTT],za HB8⟩
abbrev GRow (W:World) (B:Nat) (v:Value) (gs:List Value):Prop:=W.ownsRow B 36 1 v gs.length gs
theorem infoEvS:(Tryz.prog.info? 36).map (fun i=>(i.zero,i.size,i.bytes)) = some (some (.slice none 0 0),1,24):=by kernel_rfl
theorem zZ {W:World} {b n j:Nat} (h:W.there b 3 n) (hj:j < n):∃ u,W.cell? ⟨b,3 + j,none⟩ = some u∧W.frozen? ⟨b,3 + j,none⟩ = false:=by
 obtain ⟨h1,h2⟩:=h j hj
 obtain ⟨u,hu⟩:=Option.isSome_iff_exists.1 h1
 exact ⟨u,hu,h2⟩
theorem zbm (b:Nat):∀ (vs:List Value) (o:Nat) (W:World) (a:Addr),(W.setCells b o vs).frozen? a = W.frozen? a
 | [],_,_,_=>rfl
 | v :: r,o,W,a=>by rw [World.setCells,zbm b r (o + 1),World.frozen?_setCell]
structure RC (C:Nat→Value→Prop) (mb B:Nat) (gv vo:Value) (gs:List Value) (base:World) (x:List Bool) (f:Nat→Value) (W:World):Prop where
 c:∀ j,x[j]? = some true→C j (f j)
 b:x[11]? = some false→Below base.heap.size base W
 m10:x[10]? = some true→x[11]? = some false→∃ s,f 10 = .slice (some ⟨s,0,none⟩) 1 1∧W.cell? ⟨s,0,none⟩ = some vo
 m11:x[11]? = some true→x[15]? = some false→GRow W B (f 11) (gs ++ [vo])∧base.grownBy W gv.ownBlock
 m15:x[15]? = some true→∃ V,GRow V B (f 11) (gs ++ [vo])∧base.grownBy V gv.ownBlock∧W = V.setCell ⟨mb,0,none⟩ (f 11)
def RCA (F:(Nat→Value)→Act) (C:Nat→Value→Prop) (mb B:Nat) (gv vo:Value) (gs:List Value) (base:World) (x:List Bool) (A:Act) (W:World):Prop:=∃ f,A = F f∧RC C mb B gv vo gs base x f W
def C0G (mb:Nat) (gv vo:Value):Nat→Value→Prop
 | 0,v | 1,v | 2,v | 3,v | 4,v | 6,v | 7,v | 12,v | 13,v | 14,v=>v = .pointer (some ⟨mb,0,none⟩)
 | 5,v=>v = gv
 | 8,v=>v = .pointer (some ⟨mb,11,none⟩)
 | 9,v=>v = vo
 | _,_=>True
section
variable {C:Nat→Value→Prop} {mb B:Nat} {gv vo:Value} {gs:List Value} {base W W':World} {x:List Bool} {f:Nat→Value}
theorem zbD (h:RC C mb B gv vo gs base x f W) (i:Nat) (v:Value) (hv:C i v) (h10:i ≠ 10) (h11:i ≠ 11) (h15:i ≠ 15):RC C mb B gv vo gs base (x.set i true) (upd f i v) W:=by
 refine ⟨zv h.c hv,?_,?_,?_,?_⟩ <;> simp only [gq h10,gq h11,gq h15,zq f v h10.symm,zq f v h11.symm]
 ·exact h.b
 ·exact h.m10
 ·exact h.m11
 ·exact h.m15
theorem rc_10 (h:RC (C0G mb gv vo) mb B gv vo gs base x f W) (h11:x[11]? = some false) (h15:x[15]? = some false):RC (C0G mb gv vo) mb B gv vo gs base (x.set 10 true) (upd f 10 (.slice (some ⟨W.heap.size,0,none⟩) 1 1)) (W.alloc (Obj.cells #[vo] 36)):=by
 have hb:=h.b h11
 refine ⟨zv h.c trivial,fun _=>hb.alloc hb.size _,fun _ _=>⟨W.heap.size,zp _ _ _,by have:=zh W [vo] 36 0 _ rfl; exact this⟩,?_,?_⟩
 ·intro e; rw [gq (by decide),h11] at e; cases e
 ·intro e; rw [gq (by decide),h15] at e; cases e
theorem rc_11 (h:RC (C0G mb gv vo) mb B gv vo gs base x f W) (h11:x[11]? = some false) (h15:x[15]? = some false) {v':Value} (ho:GRow W' B v' (gs ++ [vo])) (hg:base.grownBy W' gv.ownBlock):RC (C0G mb gv vo) mb B gv vo gs base (x.set 11 true) (upd f 11 v') W':=by
 refine ⟨zv h.c trivial,?_,?_,fun _ _=>⟨by rw [zp]; exact ho,hg⟩,?_⟩
 ·intro e; rw [gqs h11] at e; cases e
 ·intro _ e; rw [gqs h11] at e; cases e
 ·intro e; rw [gq (by decide),h15] at e; cases e
theorem rc_15 (h:RC (C0G mb gv vo) mb B gv vo gs base x f W) (k11:x[11]? = some true) (h15:x[15]? = some false) (ho:GRow W B (f 11) (gs ++ [vo])) (hg:base.grownBy W gv.ownBlock):RC (C0G mb gv vo) mb B gv vo gs base (x.set 15 true) f (W.setCell ⟨mb,0,none⟩ (f 11)):=by
 refine ⟨fun j hj=>?_,?_,?_,?_,fun _=>⟨W,ho,hg,rfl⟩⟩
 ·by_cases hji:j = 15
  ·subst hji; trivial
  ·rw [gq (fun e=>hji e.symm)] at hj; exact h.c j hj
 ·intro e; rw [gq (by decide),k11] at e; cases e
 ·intro _ e; rw [gq (by decide),k11] at e; cases e
 ·intro _ e; rw [gqs h15] at e; cases e
end
structure RDg (C:Nat→Value→Prop) (mb:Nat) (tv:List Value) (base:World) (x:List Bool) (f:Nat→Value) (W:World):Prop where
 c:∀ j,x[j]? = some true→C j (f j)
 b:x[14]? = some false→Below base.heap.size base W
 m:x[14]? = some true→∃ V,Below base.heap.size base V∧W = V.setCells mb 3 tv
def RDgA (F:(Nat→Value)→Act) (C:Nat→Value→Prop) (mb:Nat) (tv:List Value) (base:World) (x:List Bool) (A:Act) (W:World):Prop:=∃ f,A = F f∧RDg C mb tv base x f W
def C1G (mb:Nat) (tv wv vo:Value):Nat→Value→Prop
 | 0,v | 1,v | 2,v | 3,v | 6,v | 7,v | 11,v | 12,v=>v = .pointer (some ⟨mb,0,none⟩)
 | 4,v | 13,v=>v = .pointer (some ⟨mb,3,none⟩)
 | 5,v=>v = tv
 | 8,v=>v = .pointer (some ⟨mb,11,none⟩)
 | 9,v=>v = vo
 | 10,v=>v = wv
 | _,_=>True
section
variable {C:Nat→Value→Prop} {mb:Nat} {tv:List Value} {base W W':World} {x:List Bool} {f:Nat→Value}
theorem zbw (h:RDg C mb tv base x f W) (i:Nat) (v:Value) (hv:C i v) (h14:i ≠ 14):RDg C mb tv base (x.set i true) (upd f i v) W:=by
 refine ⟨zv h.c hv,?_,?_⟩ <;> rw [gq h14]
 ·exact h.b
 ·exact h.m
theorem rd_grow (h:RDg C mb tv base x f W) (h14:x[14]? = some false) (hb:Below W.heap.size W W'):RDg C mb tv base x f W' :=
 ⟨h.c,fun e=>(h.b e).trans (hb.mono (h.b e).size),fun e=>by rw [h14] at e; cases e⟩
theorem rd_14 {tw wv vo:Value} (h:RDg (C1G mb tw wv vo) mb tv base x f W) (h14:x[14]? = some false):RDg (C1G mb tw wv vo) mb tv base (x.set 14 true) f (W.setCells mb 3 tv):=by
 refine ⟨fun j hj=>?_,?_,fun _=>⟨W,h.b h14,rfl⟩⟩
 ·by_cases hji:j = 14
  ·subst hji; trivial
  ·rw [gq (fun e=>hji e.symm)] at hj; exact h.c j hj
 ·intro e; rw [gqs h14] at e; cases e
end
end Go.Proofs.YtopjoogdpjaocaaGreat
