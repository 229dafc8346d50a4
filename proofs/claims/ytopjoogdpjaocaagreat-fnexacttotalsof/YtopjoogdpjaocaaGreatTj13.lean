/-
  What is left of the taker laid behind the others, by the program: proved by walking the method.
-/
import Derived.Test.YtopjoogdpjaocaaGreatTj12
import Derived.Deep.AppendLies
import Derived.Deep.RegionLaw
set_option linter.unusedVariables false
set_option maxHeartbeats 6400000
set_option maxRecDepth 100000
namespace Go.Proofs.YtopjoogdpjaocaaGreat
open Go.RowKit
theorem one_od (o:Od):∀ u ∈ o.vs,u.oneCell' = true:=by
 intro u hu
 simp [Od.vs] at hu
 rcases hu with rfl | rfl | rfl | rfl | rfl | rfl <;> rfl
def DR (mb B:Nat) (W0:World) (vq:Value) (l:List Od) (t:Od) (p q:Prop) (V:World):Nat→Value→Prop
 | 0,v=>v = .pointer (some ⟨mb,0,none⟩)
 | 1,v=>v = .pointer (some ⟨mb,0,none⟩)
 | 2,v=>v = .pointer (some ⟨mb,0,none⟩)
 | 3,v=>v = .pointer (some ⟨mb,0,none⟩)
 | 4,v=>v = .pointer (some ⟨mb,1,none⟩)
 | 5,v=>v = vq
 | 6,v=>v = .pointer (some ⟨mb,0,none⟩)
 | 7,v=>v = .pointer (some ⟨mb,0,none⟩)
 | 8,v=>v = .pointer (some ⟨mb,2,none⟩)
 | 9,v=>v = .agg #[.int .i64 t.id,.int .i64 t.side,.int .i64 t.ticks,.int .i64 t.left,.int .i64 t.life,.string t.tag]
 | 10,v=>∃ s,v = .slice (some ⟨s,0,none⟩) 1 1∧(¬ p→∀ j u,t.vs[j]? = some u→V.cell? ((⟨s,0,none⟩:Addr).add j) = some u)
 | 11,v=>∃ a c,v = .slice a (l.length + 1) c∧p∧(¬ q→ORow V B v (l ++ [t])∧W0.grownBy V vq.ownBlock)∧(q→V.cell? ⟨mb,1,none⟩ = some v∧ORow V B v (l ++ [t])∧TookAt mb 0 vq.ownBlock W0 V)
 | 12,v=>v = .pointer (some ⟨mb,0,none⟩)
 | 13,v=>v = .pointer (some ⟨mb,0,none⟩)
 | 14,v=>v = .pointer (some ⟨mb,1,none⟩)
 | _,_=>True
section
variable {mb B:Nat} {W0 V V':World} {vq:Value} {l:List Od} {t:Od} {p q:Prop}
theorem dr_alloc {o:Obj} (hp:¬ p):∀ j v,DR mb B W0 vq l t p q V j v→DR mb B W0 vq l t p q (V.alloc o) j v:=by
 intro j v h
 match j with
 | 0 | 1 | 2 | 3 | 4 | 5 | 6 | 7 | 8 | 9 | 12 | 13 | 14=>exact h
 | 10 =>
  obtain ⟨s,h1,h2⟩:=h
  exact ⟨s,h1,fun hp j u hu=>(World.cell?_alloc_lt _ _ _ (World.block_lt_of_cell? V _ (h2 hp j u hu))).trans (h2 hp j u hu)⟩
 | 11=>obtain ⟨_,_,_,h2,_⟩:=h; exact absurd h2 hp
 | j + 15=>trivial
theorem dr_one:∀ j v,j ≠ 11→DR mb B W0 vq l t False False V j v→DR mb B W0 vq l t True False V' j v:=by
 intro j v hj h
 match j with
 | 0 | 1 | 2 | 3 | 4 | 5 | 6 | 7 | 8 | 9 | 12 | 13 | 14=>exact h
 | 10 =>
  obtain ⟨s,h1,h2⟩:=h
  exact ⟨s,h1,fun hp=>absurd trivial hp⟩
 | 11=>exact absurd rfl hj
 | j + 15=>trivial
theorem dr_two {v:Value}:∀ j,j ≠ 15→DR mb B W0 vq l t True False V j v→(j = 11→DR mb B W0 vq l t True True V' 11 v)→DR mb B W0 vq l t True True V' j v:=by
 intro j hj h h11
 match j with
 | 0 | 1 | 2 | 3 | 4 | 5 | 6 | 7 | 8 | 9 | 12 | 13 | 14=>exact h
 | 10 =>
  obtain ⟨s,h1,h2⟩:=h
  exact ⟨s,h1,fun hp=>absurd trivial hp⟩
 | 11=>exact h11 rfl
 | j + 15=>trivial
end
theorem matS_took {mb B:Nat} {W w':World} {next:Int} {vq vq':Value} {l l':List Od} {t:Od} {vt:Value} {ts:List Ev} (h:MatS mb B W next vq l t vt ts) (ht:TookAt mb 0 vq.ownBlock W w') (hc:w'.cell? ⟨mb,1,none⟩ = some vq') (ho:ORow w' B vq' l'):MatS mb B w' next vq' l' t vt ts:=by
 have hcell:∀ j,j ≠ 1→w'.cell? ⟨mb,j,none⟩ = W.cell? ⟨mb,j,none⟩:=fun j h1=>ht.cell j (by omega)
 refine ⟨?_,fun j hj=>⟨?_,?_⟩,ho,zam h.erow ht h.nt (zB h.erow h.orow (by decide)),by obtain ⟨cur,hc⟩:=h.box; exact ht.kind _ _ _ hc,Nat.le_trans h.le ht.size⟩
 ·intro j u hj
  by_cases h1:j = 1
  ·subst h1; cases hj; exact hc
  ·rw [Nat.zero_add,hcell j h1]
   have:W.cell? ⟨mb,0 + j,none⟩ = some u:=h.cells j u (by
    rcases j with _ | _ | j
    ·exact hj
    ·exact absurd rfl h1
    ·exact hj)
   rwa [Nat.zero_add] at this
 ·by_cases h1:j = 1
  ·subst h1; rw [Nat.zero_add,hc]; rfl
  ·rw [Nat.zero_add,hcell j h1]; have:=(h.there j hj).1; rwa [Nat.zero_add] at this
 ·rw [Nat.zero_add,ht.frozen]; have:=(h.there j hj).2; rwa [Nat.zero_add] at this
theorem cells_of_mk (w:World) (cs:List Value) (t:TypeId) (j:Nat) (u:Value) (h:cs[j]? = some u):((w.alloc (Obj.cells cs.toArray t)).drew).cell? ((⟨w.heap.size,0,none⟩:Addr).add j) = some u :=
 World.news_of_block (heap_alloc_new w (Obj.cells cs.toArray t)) j u (by simpa using h)
set_option maxRecDepth 100000 in
set_option maxHeartbeats 3200000 in
theorem rest_any (mb B:Nat) (next:Int) (vq:Value) (l:List Od) (t:Od) (vt:Value) (ts:List Ev) (w:World) (h:MatS mb B w next vq l t vt ts) (hn:l.length ≤ 1000) :
  Calls Tryz.prog 73 #[.pointer (some ⟨mb,0,none⟩)] w fun e w'=>∃ vq',e = .returned (.tuple #[])∧MatS mb B w' next vq' (l ++ [t]) t vt ts∧KeptBut mb B w w':=by
 have HM:=hide h
 have hmw:=h.lt
 have hBw:=h.le
 have hnq:=h.nq
 have HBX:=hide h.box
 have HORO:=hide h.orow
 have hM:=hide h.cells
 have HM1:Hid (w.cell? ⟨mb,1,none⟩ = some vq):=za hM 1 _ rfl
 have HF1:Hid (w.frozen? ⟨mb,1,none⟩ = false):=by have:=(h.there 1 (by omega)).2; rwa [Nat.zero_add] at this
 clear h
 obtain ⟨i0,hi0,hz0,hz1,hz2⟩:=info_parts Tryz.infoOrder
 go_enter Tryz.func73,Tryz.ntmps73
 go_wp2_with fail
 have hj1:=za HM1
 have hf1:=za HF1
 have k2:=za hM 2 _ rfl
 have k3:=za hM 3 _ rfl
 have k4:=za hM 4 _ rfl
 have k5:=za hM 5 _ rfl
 have k6:=za hM 6 _ rfl
 have k7:=za hM 7 _ rfl
 rw [Nat.zero_add] at k2 k3 k4 k5 k6 k7
 go_region_law ((refine step_append_lies _ (by rfl) _ _ _ (by rfl) B 78 i0 _ 6 56 Tryz.underlying44 hi0 hz0 hz1 hz2 rfl (by decide) _ l.length (l.flatMap Od.vs) (by rfl) (zk (za HORO) ((Below.refl w.heap.size w).alloc (Nat.le_refl _) _).drew) ⟨w.heap.size,0,none⟩ 1 1 t.vs (by rfl) rfl (cells_of_mk w t.vs _) (one_od t) (by decide) (by unfold maxLen; omega) (by omega) (by show B ≤ (w.alloc _).heap.size; rw [ze]; omega) (w.heap.size + 1) (by simp) ?_; intro gq cq w5 hown5 hg5 hat5 hlt5; have y1:=(hg5.cell_far ⟨mb,1,none⟩ (by show mb < (w.alloc _).heap.size; rw [ze]; omega) hnq).trans ((((Below.refl w.heap.size w).alloc (Nat.le_refl _) _).drew.cell (p:=⟨mb,1,none⟩) (by show mb < _; omega)).trans hj1); have r1:=(hg5.frozen_far ⟨mb,1,none⟩ (by show mb < (w.alloc _).heap.size; rw [ze]; omega) hnq).trans ((World.frozen?_of_block (a:=⟨mb,1,none⟩) (((Below.refl w.heap.size w).alloc (Nat.le_refl _) _).drew.block mb (by omega))).trans hf1)))
 all_goals
  have hal:Below w.heap.size w ((w.alloc (Obj.cells t.vs.toArray 78)).drew):=((Below.refl w.heap.size w).alloc (Nat.le_refl _) _).drew
  have hgr:w.grownBy w5 vq.ownBlock:=gr_trans (zaa hal (Nat.le_refl _)) hg5
  have htk:TookAt mb 0 vq.ownBlock w (w5.setCell ⟨mb,1,none⟩ (.slice (some ⟨gq,0,none⟩) (l.length + 1) cq)):=zas (zaj hgr (by omega) hnq) (zbK (o:=0) _ _)
  have hbx:∃ cur,w5.heap[mb]? = some (.cells cur 126 (0,0)):=by obtain ⟨cur,hc⟩:=za HBX; exact ⟨cur,(hgr.block mb (by omega) hnq).trans hc⟩
  have hrw:ORow w5 B (.slice (some ⟨gq,0,none⟩) (l.length + 1) cq) (l ++ [t]):=by show World.ownsRow _ _ _ _ _ _ _; rw [List.length_append,List.flatMap_append]; simpa using hown5
  go_end0
  exact ⟨_,rfl,matS_took (za HM) htk (World.cell?_setCell_same _ _ _ y1) (zt hrw (zj hrw hbx (by decide)) 1 _),zaY htk hBw (fun g hg=>((za HORO).lt g hg).1)⟩
def fullB (l:List Od):Bool:=if 20 < l.length then true else decide (8 < ((zbg true 1 (zz l 1)).length:Int) + (zbg false 2 (zz l 2)).length)
def DF (mb:Nat) (BV:Value) (q1 q2:List Od) (N:Int) (p:Prop) (W:World):Nat→Value→Prop
 | 0,v=>v = .pointer (some ⟨mb,0,none⟩)
 | 1,v=>v = .pointer (some ⟨mb,0,none⟩)
 | 2,v=>v = .pointer (some ⟨mb,0,none⟩)
 | 3,v=>v = BV
 | 4,v=>∃ b,v = zbY b∧Tb W b q1
 | 5,v=>v = .pointer (some ⟨mb,0,none⟩)
 | 6,v=>v = .pointer (some ⟨mb,0,none⟩)
 | 7,v=>v = .pointer (some ⟨mb,0,none⟩)
 | 8,v=>v = BV
 | 9,v=>∃ b,v = zbZ b∧Ts W b q2
 | 10,v=>v = .int .i64 N
 | 11,v=>v = .bool (decide (8 < N))
 | 12,v=>v = .bool (decide (8 < N))
 | _,_=>True
theorem df_mono {mb:Nat} {BV:Value} {q1 q2:List Od} {N:Int}:∀ p W W' j v,Below W.heap.size W W'→DF mb BV q1 q2 N p W j v→DF mb BV q1 q2 N p W' j v:=by
 intro p W W' j v hb h
 match j with
 | 0 | 1 | 2 | 3 | 5 | 6 | 7 | 8 | 10 | 11 | 12=>exact h
 | 4=>obtain ⟨b,h1,h2⟩:=h; exact ⟨b,h1,zG h2 (hb.block _ (zaf h2))⟩
 | 9=>obtain ⟨b,h1,h2⟩:=h; exact ⟨b,h1,zG h2 (hb.block _ (zaf h2))⟩
 | n + 13=>trivial
set_option maxRecDepth 100000 in
set_option maxHeartbeats 1600000 in
theorem isTooFull_any (mb B:Nat) (next:Int) (vq:Value) (l:List Od) (t:Od) (vt:Value) (ts:List Ev) (w:World) (h:MatS mb B w next vq l t vt ts) (hm:l.length ≤ 1000) (hl:∀ o' ∈ l,0 ≤ o'.left∧o'.left ≤ 1000000) :
  Calls Tryz.prog 105 #[.pointer (some ⟨mb,0,none⟩)] w fun e w'=>e = .returned (.bool (fullB l))∧Below w.heap.size w w':=by
 have hmw:=h.lt
 have hBw:=h.le
 have HR:=hide (zM h.orow (by omega))
 obtain ⟨a,cap,rfl,_,_⟩:=zM h.orow (by omega)
 have HM:=hide h.cells
 have z0:w.cell? ⟨mb,0,none⟩ = some (.int .i64 next):=h.cells 0 _ rfl
 have z1:w.cell? ⟨mb,1,none⟩ = some (.slice a l.length cap):=h.cells 1 _ rfl
 have HLB:=hide hl
 clear h hl
 go_enter Tryz.func105,Tryz.ntmps105
 by_cases h20:20 < l.length
 ·have h20':(20:Int) < l.length:=by omega
  have HF:Hid (fullB l = true):=if_pos h20
  clear h20
  go_wp2_with fail
  go_ret
  exact ⟨zy (za HF).symm,Below.refl _ _⟩
 have h20':¬ (20:Int) < l.length:=by omega
 have hn:l.length ≤ 20:=by omega
 have n1:(zz l 1).length ≤ 20:=Nat.le_trans (List.length_filter_le _ _) hn
 have n2:(zz l 2).length ≤ 20:=Nat.le_trans (List.length_filter_le _ _) hn
 generalize hN:((zbg true 1 (zz l 1)).length:Int) + (zbg false 2 (zz l 2)).length = N
 have HF:Hid (fullB l = decide (8 < N)):=by show _ = _; rw [fullB,if_neg h20,hN]
 have HNN:=hide hN
 clear hN h20
 go_wp2_with fail
 clear z0 z1
 refine zo (RG w (fun f=>{ tmps:=#[.pointer (some ⟨mb,0,none⟩),undef,f 12,.pointer (some ⟨mb,0,none⟩),.pointer (some ⟨mb,0,none⟩),.pointer (some ⟨mb,0,none⟩),.pointer (some ⟨mb,1,none⟩),.slice a l.length cap,.int .i64 l.length,.bool false,f 0,f 1,f 2,f 3,f 4,f 5,f 6,f 7,f 8,f 9,f 10,f 11],defers:=[] }) 99 (DF mb (.agg #[.int .i64 next,.slice a l.length cap]) (zz l 1) (zz l 2) N)) (by kernel_rfl) ?_ ?_ ?_
 ·exact ⟨fun j=>if j = 12 then .bool false else undef,rfl,⟨rfl,rfl,rfl,Nat.le_refl _,fun _ _=>rfl⟩,fun j hj=>by rw [List.getElem?_replicate] at hj; split at hj <;> simp at hj⟩
 ·rintro x A V ⟨f,rfl,hbel,hD⟩ hx hrd
  have hallx:=zab hrd hx (acyc _ (by kernel_rfl))
  have e12:f 12 = .bool (decide (8 < N)):=hD 12 (hallx 12 (by simp))
  have HBV:=hide hbel
  simp only [e12]
  clear hD hallx e12 hrd hx hbel
  go_wp2_with fail
  go_ret
  exact ⟨zy (za HF).symm,za HBV⟩
 ·rintro x A V i o ⟨f,rfl,hbel,hD⟩ hcl hx ho hxi hall
  clear hcl
  have HBV:=hide hbel
  have HD:=hide hD
  have z0:=zb (za HM) hbel hmw 0 _ rfl
  have z1:=zb (za HM) hbel hmw 1 _ rfl
  rw [Nat.zero_add] at z0 z1
  have HRD:=hide (zl (za HR) hbel (Nat.le_refl _))
  match i,ho with
  | 0,ho =>
   obtain rfl:=Option.some.inj ho
   clear hall hD hbel
   rw [if_pos (by rfl)]
   unfold Oper.wp
   go_simp
   exact ⟨upd f 0 (.pointer (some ⟨mb,0,none⟩)),by simp [upd],zn (za HBV) (za HD) (by decide) rfl⟩
  | 1,ho =>
   obtain rfl:=Option.some.inj ho
   have g:f 0 = .pointer (some ⟨mb,0,none⟩):=hD 0 (hall ⟨0,.data⟩ (by simp) rfl)
   clear hall hD hbel
   rw [if_pos (by rfl)]
   unfold Oper.wp
   go_simp
   exact ⟨upd f 1 (.pointer (some ⟨mb,0,none⟩)),by simp [upd,g],zn (za HBV) (za HD) (by decide) rfl⟩
  | 2,ho =>
   obtain rfl:=Option.some.inj ho
   have g:f 1 = .pointer (some ⟨mb,0,none⟩):=hD 1 (hall ⟨1,.data⟩ (by simp) rfl)
   clear hall hD hbel
   rw [if_pos (by rfl)]
   unfold Oper.wp
   go_simp
   exact ⟨upd f 2 (.pointer (some ⟨mb,0,none⟩)),by simp [upd,g],zn (za HBV) (za HD) (by decide) rfl⟩
  | 3,ho =>
   obtain rfl:=Option.some.inj ho
   have g:f 2 = .pointer (some ⟨mb,0,none⟩):=hD 2 (hall ⟨2,.data⟩ (by simp) rfl)
   clear hall hD hbel
   rw [if_pos (by rfl)]
   unfold Oper.wp
   go_simp
   exact ⟨upd f 3 (.agg #[.int .i64 next,.slice a l.length cap]),by simp [upd,g],zn (za HBV) (za HD) (by decide) rfl⟩
  | 4,ho =>
   obtain rfl:=Option.some.inj ho
   have g:f 3 = .agg #[.int .i64 next,.slice a l.length cap]:=hD 3 (hall ⟨3,.data⟩ (by simp) rfl)
   clear hall hD hbel
   rw [if_pos (by rfl)]
   unfold Oper.wp
   go_simp
   refine (sideOf_buy next _ l V (za HRD) hn (za HLB)).mono ?_
   rintro e w4 ⟨b,rfl,ht,hle,hb4⟩
   exact ⟨upd f 4 (zbY b),by simp [upd,g],zcr df_mono (za HBV) (za HD) hb4 (by decide) ⟨b,rfl,ht⟩⟩
  | 5,ho =>
   obtain rfl:=Option.some.inj ho
   clear hall hD hbel
   rw [if_pos (by rfl)]
   unfold Oper.wp
   go_simp
   exact ⟨upd f 5 (.pointer (some ⟨mb,0,none⟩)),by simp [upd],zn (za HBV) (za HD) (by decide) rfl⟩
  | 6,ho =>
   obtain rfl:=Option.some.inj ho
   have g:f 5 = .pointer (some ⟨mb,0,none⟩):=hD 5 (hall ⟨5,.data⟩ (by simp) rfl)
   clear hall hD hbel
   rw [if_pos (by rfl)]
   unfold Oper.wp
   go_simp
   exact ⟨upd f 6 (.pointer (some ⟨mb,0,none⟩)),by simp [upd,g],zn (za HBV) (za HD) (by decide) rfl⟩
  | 7,ho =>
   obtain rfl:=Option.some.inj ho
   have g:f 6 = .pointer (some ⟨mb,0,none⟩):=hD 6 (hall ⟨6,.data⟩ (by simp) rfl)
   clear hall hD hbel
   rw [if_pos (by rfl)]
   unfold Oper.wp
   go_simp
   exact ⟨upd f 7 (.pointer (some ⟨mb,0,none⟩)),by simp [upd,g],zn (za HBV) (za HD) (by decide) rfl⟩
  | 8,ho =>
   obtain rfl:=Option.some.inj ho
   have g:f 7 = .pointer (some ⟨mb,0,none⟩):=hD 7 (hall ⟨7,.data⟩ (by simp) rfl)
   clear hall hD hbel
   rw [if_pos (by rfl)]
   unfold Oper.wp
   go_simp
   exact ⟨upd f 8 (.agg #[.int .i64 next,.slice a l.length cap]),by simp [upd,g],zn (za HBV) (za HD) (by decide) rfl⟩
  | 9,ho =>
   obtain rfl:=Option.some.inj ho
   have g:f 8 = .agg #[.int .i64 next,.slice a l.length cap]:=hD 8 (hall ⟨8,.data⟩ (by simp) rfl)
   clear hall hD hbel
   rw [if_pos (by rfl)]
   unfold Oper.wp
   go_simp
   refine (sideOf_sell next 2 (by omega) _ l V (za HRD) hn (za HLB)).mono ?_
   rintro e w4 ⟨b,rfl,ht,hle,hb4⟩
   exact ⟨upd f 9 (zbZ b),by simp [upd,g],zcr df_mono (za HBV) (za HD) hb4 (by decide) ⟨b,rfl,ht⟩⟩
  | 10,ho =>
   obtain rfl:=Option.some.inj ho
   obtain ⟨b1,g4,t4⟩:=hD 4 (hall ⟨4,.data⟩ (by simp) rfl)
   obtain ⟨b2,g9,t9⟩:=hD 9 (hall ⟨9,.data⟩ (by simp) rfl)
   have HT4:=hide t4
   have HT9:=hide t9
   clear hall hD hbel t4 t9
   rw [if_pos (by rfl)]
   unfold Oper.wp
   go_simp
   refine (countLevels_any b1 b2 1 2 (zz l 1) (zz l 2) V (za HT4) (za HT9) n1 n2).mono ?_
   rw [za HNN]
   rintro e w4 ⟨rfl,hb4⟩
   exact ⟨upd f 10 (.int .i64 N),by simp [upd,g4,g9],zcr df_mono (za HBV) (za HD) hb4 (by decide) rfl⟩
  | 11,ho =>
   obtain rfl:=Option.some.inj ho
   have g:f 10 = .int .i64 N:=hD 10 (hall ⟨10,.data⟩ (by simp) rfl)
   clear hall hD hbel
   rw [if_pos (by rfl)]
   unfold Oper.wp
   go_simp
   exact ⟨upd f 11 (.bool (decide (8 < N))),by simp [upd,g],zn (za HBV) (za HD) (by decide) rfl⟩
  | 12,ho =>
   obtain rfl:=Option.some.inj ho
   have g:f 11 = .bool (decide (8 < N)):=hD 11 (hall ⟨11,.data⟩ (by simp) rfl)
   clear hall hD hbel
   rw [if_pos (by rfl)]
   unfold Oper.wp
   go_simp
   exact ⟨upd f 12 (.bool (decide (8 < N))),by simp [upd,g],zn (za HBV) (za HD) (by decide) rfl⟩
  | n + 13,ho=>simp at ho
def zaA (l:List Od) (sd:Int):Option Od:=(quOf (decide (sd = 1)) (zz l sd)).head?
def matL (c:Cm) (id:Int):Nat→List Od→Int→List Ev→List Od × Int × List Ev
 | 0,l,left,ts=>(l,left,ts)
 | n + 1,l,left,ts =>
  if 0 < left then
   match zaA l (othS c.s) with
   | none=>(l,left,ts)
   | some o=>if zcn c o = true then matL c id n (zau l (plc l o.id).toNat o (min left o.left)) (left - min left o.left) (ts ++ [trE id o.id (min left o.left) o.ticks]) else (l,left,ts)
  else (l,left,ts)
structure GoodL (l:List Od):Prop where
 len:l.length ≤ 20
 left:∀ o ∈ l,0 < o.left∧o.left ≤ 1000000
 rise:zbc l
theorem front_mem {l:List Od} {sd:Int} {o:Od} (h:zaA l sd = some o):o ∈ l∧o.side = sd:=by
 have h1:o ∈ quOf (decide (sd = 1)) (zz l sd):=List.mem_of_head? h
 obtain ⟨k,_,h2⟩:=List.mem_flatMap.1 h1
 have h3:=(List.mem_filter.1 h2).1
 have h4:=List.mem_filter.1 h3
 exact ⟨h4.1,by simpa using h4.2⟩
theorem rise_id {l:List Od} (hr:zbc l) {i k:Nat} {o o':Od} (hi:l[i]? = some o') (hk:l[k]? = some o) (he:o'.id = o.id):i = k:=by
 obtain ⟨h1,rfl⟩:=List.getElem?_eq_some_iff.1 hi
 obtain ⟨h2,rfl⟩:=List.getElem?_eq_some_iff.1 hk
 rcases Nat.lt_trichotomy i k with h | h | h
 ·have:=List.pairwise_iff_getElem.1 hr i k h1 h2 h; omega
 ·exact h
 ·have:=List.pairwise_iff_getElem.1 hr k i h2 h1 h; omega
theorem plc_at {l:List Od} (hr:zbc l) {k:Nat} {o:Od} (hk:l[k]? = some o):plc l o.id = k:=by
 rcases plcF_spec o.id l 0 with ⟨_,h2⟩ | ⟨i,o',h1,h2,h3,_⟩
 ·exact absurd rfl (h2 o (List.mem_of_getElem? hk))
 ·rw [plc,h1,rise_id hr h2 hk h3]; congr 1; omega
theorem good_hit {l:List Od} (h:GoodL l) {k:Nat} {o:Od} (hk:l[k]? = some o) {qty:Int} (h0:0 ≤ qty) (h1:qty ≤ o.left):GoodL (zau l k o qty)∧((zau l k o qty).length + 1 = l.length ∨ (qty < o.left∧(zau l k o qty).length = l.length)):=by
 have hkl:=(List.getElem?_eq_some_iff.1 hk).1
 by_cases he:o.left = qty
 ·have e:zau l k o qty = l.take k ++ l.drop (k + 1):=if_pos he
  rw [e]
  have hs:(l.take k ++ l.drop (k + 1)).Sublist l:=by
   have:(l.take k ++ l.drop (k + 1)).Sublist (l.take k ++ l.drop k):=List.Sublist.append (List.Sublist.refl _) (by rw [drop_get hk]; exact List.sublist_cons_self _ _)
   rwa [List.take_append_drop] at this
  refine ⟨⟨Nat.le_trans hs.length_le h.len,fun o' ho'=>h.left o' (hs.subset ho'),h.rise.sublist hs⟩,.inl ?_⟩
  simp; omega
 ·have e:zau l k o qty = l.set k { o with left:=o.left - qty }:=if_neg he
  rw [e]
  have ho:=h.left o (List.mem_of_getElem? hk)
  refine ⟨⟨by rw [List.length_set]; exact h.len,fun o' ho'=>?_,?_⟩,.inr ⟨by omega,by rw [List.length_set]⟩⟩
  ·rcases List.mem_or_eq_of_mem_set ho' with h2 | rfl
   ·exact h.left o' h2
   ·simp only; omega
  ·refine List.pairwise_iff_getElem.2 fun i j hi hj hij=>?_
   rw [List.length_set] at hi hj
   have hp:=List.pairwise_iff_getElem.1 h.rise i j hi hj hij
   have hko:l[k] = o:=by have:=(List.getElem?_eq_some_iff.1 hk).2; exact this
   rw [List.getElem_set,List.getElem_set]
   split <;> split
   ·omega
   ·next h2 _=>subst h2; rw [hko] at hp; exact hp
   ·next _ h2=>subst h2; rw [hko] at hp; exact hp
   ·exact hp
structure MI (c:Cm) (id:Int) (F:List Od × Int × List Ev) (l:List Od) (left:Int) (ts:List Ev):Prop where
 good:GoodL l
 l0:0 ≤ left
 l1:left ≤ 1000000
 few:ts.length ≤ 21
 some:0 < left→ts.length + l.length ≤ 20
 goal:∃ n,matL c id n l left ts = F∧(0 < left→l.length < n)
theorem matL_end {c:Cm} {id:Int} {n:Nat} {l:List Od} {left:Int} {ts:List Ev} (h:left ≤ 0):matL c id n l left ts = (l,left,ts):=by
 cases n with
 | zero=>rfl
 | succ n=>rw [matL,if_neg (by omega)]
theorem mi_start {c:Cm} {id:Int} {l:List Od} {left:Int} (h:GoodL l) (h0:0 ≤ left) (h1:left ≤ 1000000):MI c id (matL c id 21 l left []) l left [] :=
 ⟨h,h0,h1,by simp,fun _=>by simpa using h.len,21,rfl,fun _=>by have:=h.len; omega⟩
theorem mi_none {c:Cm} {id:Int} {F:List Od × Int × List Ev} {l:List Od} {left:Int} {ts:List Ev} (h:MI c id F l left ts) (hf:zaA l (othS c.s) = none):F = (l,left,ts):=by
 obtain ⟨n,rfl,hn⟩:=h.goal
 by_cases h0:0 < left
 ·obtain ⟨m,rfl⟩:∃ m,n = m + 1:=⟨n - 1,by have:=hn h0; omega⟩
  rw [matL,if_pos h0,hf]
 ·exact matL_end (by omega)
theorem mi_stop {c:Cm} {id:Int} {F:List Od × Int × List Ev} {l:List Od} {left:Int} {ts:List Ev} (h:MI c id F l left ts) {o:Od} (hf:zaA l (othS c.s) = some o) (hm:zcn c o = false):F = (l,left,ts):=by
 obtain ⟨n,rfl,hn⟩:=h.goal
 by_cases h0:0 < left
 ·obtain ⟨m,rfl⟩:∃ m,n = m + 1:=⟨n - 1,by have:=hn h0; omega⟩
  rw [matL,if_pos h0,hf]
  simp only [hm]
  rw [if_neg (by simp)]
 ·exact matL_end (by omega)
theorem mi_done {c:Cm} {id:Int} {F:List Od × Int × List Ev} {l:List Od} {left:Int} {ts:List Ev} (h:MI c id F l left ts) (h0:¬ 0 < left):F = (l,left,ts):=by
 obtain ⟨n,rfl,hn⟩:=h.goal
 exact matL_end (by omega)
theorem mi_step {c:Cm} {id:Int} {F:List Od × Int × List Ev} {l:List Od} {left:Int} {ts:List Ev} (h:MI c id F l left ts) (h0:0 < left) {o:Od} (hf:zaA l (othS c.s) = some o) (hm:zcn c o = true) :
  ∃ k,plc l o.id = (k:Nat)∧l[k]? = some o∧MI c id F (zau l k o (min left o.left)) (left - min left o.left) (ts ++ [trE id o.id (min left o.left) o.ticks])∧2 * (zau l k o (min left o.left)).length + (if 0 < left - min left o.left then 1 else 0) < 2 * l.length + 1:=by
 obtain ⟨hmem,_⟩:=front_mem hf
 obtain ⟨k,hk⟩:=List.getElem?_of_mem hmem
 have hp:=plc_at h.good.rise hk
 have ho:=h.good.left o hmem
 have h1:=h.l1
 have hs:=h.some h0
 obtain ⟨hg,hl⟩:=good_hit h.good hk (qty:=min left o.left) (by omega) (by omega)
 obtain ⟨n,hF,hn⟩:=h.goal
 obtain ⟨m,rfl⟩:∃ m,n = m + 1:=⟨n - 1,by have:=hn h0; omega⟩
 have hn:=hn h0
 rw [matL,if_pos h0,hf] at hF
 simp only [hm,if_true] at hF
 rw [hp,Int.toNat_natCast] at hF
 refine ⟨k,hp,hk,⟨hg,by omega,by omega,?_,fun hlt=>?_,m,hF,fun hlt=>?_⟩,?_⟩
 ·rw [List.length_append]; simp only [List.length_cons,List.length_nil]; omega
 ·rw [List.length_append]; simp only [List.length_cons,List.length_nil]; omega
 ·omega
 ·split <;> omega
end Go.Proofs.YtopjoogdpjaocaaGreat
