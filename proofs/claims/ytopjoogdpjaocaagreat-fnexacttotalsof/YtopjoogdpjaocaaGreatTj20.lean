/-
  An order cancelled by the engine: proved by walking the method.
-/
import Derived.Test.YtopjoogdpjaocaaGreatTj19
set_option linter.unusedVariables false
set_option maxHeartbeats 6400000
set_option maxRecDepth 100000
namespace Go.Proofs.YtopjoogdpjaocaaGreat
open Go.RowKit
def DVE (vs:List Value) (p:Prop) (W:World) (j:Nat) (v:Value):Prop:=∀ u,vs[j]? = some u→v = u
theorem dvE_mono {vs:List Value}:∀ p W W' j v,Below W.heap.size W W'→DVE vs p W j v→DVE vs p W' j v:=fun _ _ _ _ _ _ h=>h
set_option maxRecDepth 100000 in
set_option maxHeartbeats 6400000 in
theorem cancelE_any {mb B Bo:Nat} {gv:Value} {gs:List Value} {gl:List (List Ev)} {next:Int} {vq:Value} {l:List Od} {t:Tot} {vo:Value} {ts:List Ev} (id:Int) (k:Nat) (c:Od) (w:World) (h:EnS mb B Bo w gv gs gl next vq l t vo ts) (hl:l.length ≤ 1000) (hn:ts.length ≤ 1000) (hk:plc l id = k) (hc:l[k]? = some c) (hc0:0 ≤ c.left) (hc1:c.left ≤ 1000000) :
  Calls Tryz.prog 51 #[.pointer (some ⟨mb,0,none⟩),.agg #[.int .i64 id]] w fun r w'=>r = .returned (.tuple #[])∧(∃ vq' vo',EnS mb B Bo w' gv gs gl next vq' (zau l k c c.left) t vo' (ts ++ [⟨6,zCm,id,0,c.left,0,0⟩]))∧KeptBut mb B w w':=by
 have hne:l ≠ []:=by rintro rfl; simp at hc
 have hkl:=(List.getElem?_eq_some_iff.1 hc).1
 obtain ⟨g,cap,rfl,hcap,hBg,hgw⟩:=zbB h.orow hne
 have hmw:=h.lt
 have hBw:B ≤ w.heap.size:=Nat.le_trans h.bo h.le
 have hb1:Below w.heap.size w (w.alloc (Obj.cells #[.int .i64 id] 102)):=(Below.refl _ _).alloc (Nat.le_refl _) _
 have HE:=hide (zO h hb1)
 have HB1:=hide hb1
 have hs1:w.heap.size < (w.alloc (Obj.cells #[.int .i64 id] 102)).heap.size:=by rw [ze]; omega
 have HKR:Hid (World.rangeAt (w.alloc (Obj.cells #[.int .i64 id] 102)) w.heap.size 0 [.int .i64 id]):=zh w [.int .i64 id] _
 have HKB:Hid (∃ cur,(w.alloc (Obj.cells #[.int .i64 id] 102)).heap[w.heap.size]? = some (.cells cur 102 (0,0))):=⟨_,heap_alloc_new w _⟩
 have HPL:=hide hk
 have HLC:=hide hc
 have HC01:Hid (0 ≤ c.left∧c.left ≤ 1000000):=⟨hc0,hc1⟩
 clear h hb1 hk hc hne hc0 hc1
 go_enter Tryz.func51,Tryz.ntmps51
 refine wp_seq_k fun K hK=>?_
 have HK1:=hide hK
 clear hK
 go_wp2_with fail
 refine za HK1 _ _ ?_
 clear HK1
 generalize (w.alloc (Obj.cells #[.int .i64 id] 102)) = X at HE HB1 hs1 HKR HKB ⊢
 have hgX:g < X.heap.size:=by omega
 have hmX:mb < X.heap.size:=by omega
 have HM1:Hid (X.cell? ⟨mb,1,none⟩ = some (.int .i64 next)):=(za HE).cells 1 _ rfl
 have HM2:Hid (X.cell? ⟨mb,2,none⟩ = some (.slice (some ⟨g,0,none⟩) l.length cap)):=(za HE).cells 2 _ rfl
 have HK0:Hid (X.cell? ⟨w.heap.size,0,none⟩ = some (.int .i64 id)):=za HKR 0 _ rfl
 have HRD:=hide (zM (za HE).orow (by omega))
 have HG3:Hid (X.cell? ⟨g,k * 6 + 3,none⟩ = some (.int .i64 c.left)):=(row_hereE (za HE).orow hl (za HLC)).1 3 _ rfl
 have hkl':(k:Int) < l.length:=by omega
 have hk0:(0:Int) ≤ k:=by omega
 refine wp_seq_k fun K hK=>?_
 have HK1:=hide hK
 clear hK
 refine zo (RG X (fun f=>{ tmps:=#[.pointer (some ⟨mb,0,none⟩),.agg #[.int .i64 id],undef,.pointer (some ⟨w.heap.size,0,none⟩),f 17,f 0,f 1,f 2,f 3,f 4,f 5,f 6,f 7,f 8,f 9,f 10,f 11,f 12,f 13,f 14,f 15,f 16,undef,undef,undef,undef,undef,undef,undef,undef,undef,undef,undef,undef,undef,undef],defers:=[] }) 99 (DVE [.pointer (some ⟨mb,0,none⟩),.pointer (some ⟨mb,0,none⟩),.pointer (some ⟨mb,0,none⟩),.pointer (some ⟨mb,1,none⟩),.pointer (some ⟨mb,2,none⟩),.slice (some ⟨g,0,none⟩) l.length cap,.pointer (some ⟨mb,0,none⟩),.pointer (some ⟨mb,0,none⟩),.pointer (some ⟨mb,0,none⟩),.pointer (some ⟨mb,1,none⟩),.agg #[.int .i64 next,.slice (some ⟨g,0,none⟩) l.length cap],.pointer (some ⟨w.heap.size,0,none⟩),.int .i64 id,.int .i64 k,.pointer (some ⟨g,k * 6,none⟩),.pointer (some ⟨g,k * 6 + 3,none⟩),.int .i64 c.left,.int .i64 c.left])) (by kernel_rfl) ?_ ?_ ?_
 ·exact ⟨fun _=>undef,rfl,⟨rfl,rfl,rfl,Nat.le_refl _,fun _ _=>rfl⟩,fun j hj=>by rw [List.getElem?_replicate] at hj; split at hj <;> simp at hj⟩
 ·rintro x A V ⟨f,rfl,hbel,hD⟩ hx hrd
  have hallx:=zab hrd hx (acyc _ (by kernel_rfl))
  have e17:f 17 = .int .i64 c.left:=hD 17 (hallx 17 (by simp)) _ rfl
  refine za HK1 _ _ ?_
  clear HK1
  simp only [e17]
  generalize f 0 = v0
  generalize f 1 = v1
  generalize f 2 = v2
  generalize f 3 = v3
  generalize f 4 = v4
  generalize f 5 = v5
  generalize f 6 = v6
  generalize f 7 = v7
  generalize f 8 = v8
  generalize f 9 = v9
  generalize f 10 = v10
  generalize f 11 = v11
  generalize f 12 = v12
  generalize f 13 = v13
  generalize f 14 = v14
  generalize f 15 = v15
  generalize f 16 = v16
  have HE1:=hide (zO (za HE) hbel)
  have HKV:Hid (KeptBut mb B w V):=zi (zA (za HB1) hBw) (zA hbel (by omega))
  have z3:V.cell? ⟨w.heap.size,0,none⟩ = some (.int .i64 id):=(hbel.cell (p:=⟨w.heap.size,0,none⟩) hs1).trans (za HK0)
  have hsV:w.heap.size < V.heap.size:=Nat.lt_of_lt_of_le hs1 hbel.size
  have HBoX:Hid (∃ cur,V.heap[w.heap.size]? = some (.cells cur 102 (0,0))):=by
   obtain ⟨cur,hc⟩:=za HKB
   exact ⟨cur,(hbel.block w.heap.size hs1).trans hc⟩
  clear hD hallx e17 hrd hx hbel HM1 HM2 HG3 HRD
  refine wp_seq_k fun K hK=>?_
  have HK1:=hide hK
  clear hK
  go_wp2_with fail
  refine (zaQ ⟨6,zCm,id,0,c.left,0,0⟩ V (za HE1) hn).mono ?_
  rintro e w5 ⟨rfl,⟨vo',hE5⟩,hk5,ht5⟩
  have HE5:=hide hE5
  have HK5:=hide (zi (za HKV) hk5)
  have z5:w5.cell? ⟨w.heap.size,0,none⟩ = some (.int .i64 id):=(World.cell?_of_block (a:=⟨w.heap.size,0,none⟩) (ht5.block w.heap.size hsV (by omega) (zj (za HE1).erow (za HBoX) (by decide)))).trans z3
  clear hE5 hk5 z3 ht5
  go_wp2_with fail
  refine za HK1 _ _ ?_
  clear HK1
  refine zbO 7 (by kernel_rfl) (by kernel_rfl) ?_
  simp only [List.take_succ_cons,List.take_zero,List.drop_succ_cons,List.drop_zero]
  have z5d:w5.drew.cell? ⟨w.heap.size,0,none⟩ = some (.int .i64 id):=z5
  repeat still_step
  refine wpStill_nil ?_
  go_wp2_with fail
  refine (takeFrom_any mb 1 B next id c.left _ l k c w5.drew ((za HE5).cells 1 _ rfl) ((za HE5).cells 2 _ rfl) (by have:=((za HE5).there 2 (by omega)).2; rwa [Nat.zero_add] at this) (za HE5).orow (zj (za HE5).orow (za HE5).box (by decide)) (za HE5).lt (Nat.le_trans (za HE5).bo (za HE5).le) hl (za HPL) (za HLC) (za HC01).1 (Int.le_refl _) (za HC01).2).mono ?_
  rintro e w9 ⟨vq',rfl,hc9,ho9,ht9⟩
  have HE9:=hide (ens_took (zO (za HE5) (w':=w5.drew) ⟨rfl,rfl,rfl,Nat.le_refl _,fun _ _=>rfl⟩) hc9 ho9 ht9)
  have HK9:Hid (KeptBut mb B w w9):=zi (kept_drew (za HK5)) (zaY ht9 (Nat.le_trans (za HE5).bo (za HE5).le) (fun g' hg'=>((za HE5).orow.lt g' hg').1))
  clear hc9 ho9 ht9
  go_wp2_with fail
  go_end0
  exact ⟨rfl,⟨vq',vo',za HE9⟩,za HK9⟩
 ·rintro x A V i op ⟨f,rfl,hbel,hD⟩ hcl hx ho hxi hall
  clear hcl
  have HBV:=hide hbel
  have HD:=hide hD
  have cellV:∀ (p:Addr) u,X.cell? p = some u→V.cell? p = some u:=fun p u hu=>(hbel.cell (World.block_lt_of_cell? X _ hu)).trans hu
  have HRV:=hide (zl (za HRD) hbel (Nat.le_refl _))
  match i,ho with
  | 0,ho =>
   obtain rfl:=Option.some.inj ho
   clear hall hD hbel cellV
   rw [if_pos (by rfl)]
   unfold Oper.wp
   go_simp
   exact ⟨upd f 0 (.pointer (some ⟨mb,0,none⟩)),by simp [upd],zn (za HBV) (za HD) (by decide) (fun u hu=>by cases hu; rfl)⟩
  | 1,ho =>
   obtain rfl:=Option.some.inj ho
   have g0:f 0 = .pointer (some ⟨mb,0,none⟩):=hD 0 (hall ⟨0,.data⟩ (by simp) rfl) _ rfl
   clear hall hD hbel cellV
   rw [if_pos (by rfl)]
   unfold Oper.wp
   go_simp
   exact ⟨upd f 1 (.pointer (some ⟨mb,0,none⟩)),by simp [upd,g0],zn (za HBV) (za HD) (by decide) (fun u hu=>by cases hu; rfl)⟩
  | 2,ho =>
   obtain rfl:=Option.some.inj ho
   have g1:f 1 = .pointer (some ⟨mb,0,none⟩):=hD 1 (hall ⟨1,.data⟩ (by simp) rfl) _ rfl
   clear hall hD hbel cellV
   rw [if_pos (by rfl)]
   unfold Oper.wp
   go_simp
   exact ⟨upd f 2 (.pointer (some ⟨mb,0,none⟩)),by simp [upd,g1],zn (za HBV) (za HD) (by decide) (fun u hu=>by cases hu; rfl)⟩
  | 3,ho =>
   obtain rfl:=Option.some.inj ho
   have g2:f 2 = .pointer (some ⟨mb,0,none⟩):=hD 2 (hall ⟨2,.data⟩ (by simp) rfl) _ rfl
   clear hall hD hbel cellV
   rw [if_pos (by rfl)]
   unfold Oper.wp
   go_simp
   exact ⟨upd f 3 (.pointer (some ⟨mb,1,none⟩)),by simp [upd,g2],zn (za HBV) (za HD) (by decide) (fun u hu=>by cases hu; rfl)⟩
  | 4,ho =>
   obtain rfl:=Option.some.inj ho
   have g3:f 3 = .pointer (some ⟨mb,1,none⟩):=hD 3 (hall ⟨3,.data⟩ (by simp) rfl) _ rfl
   clear hall hD hbel cellV
   rw [if_pos (by rfl)]
   unfold Oper.wp
   go_simp
   exact ⟨upd f 4 (.pointer (some ⟨mb,2,none⟩)),by simp [upd,g3],zn (za HBV) (za HD) (by decide) (fun u hu=>by cases hu; rfl)⟩
  | 5,ho =>
   obtain rfl:=Option.some.inj ho
   have g4:f 4 = .pointer (some ⟨mb,2,none⟩):=hD 4 (hall ⟨4,.data⟩ (by simp) rfl) _ rfl
   have z2:=cellV ⟨mb,2,none⟩ _ (za HM2)
   clear hall hD hbel cellV
   rw [if_pos (by rfl)]
   unfold Oper.wp
   go_simp
   exact ⟨upd f 5 (.slice (some ⟨g,0,none⟩) l.length cap),by simp [upd,g4],zn (za HBV) (za HD) (by decide) (fun u hu=>by cases hu; rfl)⟩
  | 6,ho =>
   obtain rfl:=Option.some.inj ho
   clear hall hD hbel cellV
   rw [if_pos (by rfl)]
   unfold Oper.wp
   go_simp
   exact ⟨upd f 6 (.pointer (some ⟨mb,0,none⟩)),by simp [upd],zn (za HBV) (za HD) (by decide) (fun u hu=>by cases hu; rfl)⟩
  | 7,ho =>
   obtain rfl:=Option.some.inj ho
   have g6:f 6 = .pointer (some ⟨mb,0,none⟩):=hD 6 (hall ⟨6,.data⟩ (by simp) rfl) _ rfl
   clear hall hD hbel cellV
   rw [if_pos (by rfl)]
   unfold Oper.wp
   go_simp
   exact ⟨upd f 7 (.pointer (some ⟨mb,0,none⟩)),by simp [upd,g6],zn (za HBV) (za HD) (by decide) (fun u hu=>by cases hu; rfl)⟩
  | 8,ho =>
   obtain rfl:=Option.some.inj ho
   have g7:f 7 = .pointer (some ⟨mb,0,none⟩):=hD 7 (hall ⟨7,.data⟩ (by simp) rfl) _ rfl
   clear hall hD hbel cellV
   rw [if_pos (by rfl)]
   unfold Oper.wp
   go_simp
   exact ⟨upd f 8 (.pointer (some ⟨mb,0,none⟩)),by simp [upd,g7],zn (za HBV) (za HD) (by decide) (fun u hu=>by cases hu; rfl)⟩
  | 9,ho =>
   obtain rfl:=Option.some.inj ho
   have g8:f 8 = .pointer (some ⟨mb,0,none⟩):=hD 8 (hall ⟨8,.data⟩ (by simp) rfl) _ rfl
   clear hall hD hbel cellV
   rw [if_pos (by rfl)]
   unfold Oper.wp
   go_simp
   exact ⟨upd f 9 (.pointer (some ⟨mb,1,none⟩)),by simp [upd,g8],zn (za HBV) (za HD) (by decide) (fun u hu=>by cases hu; rfl)⟩
  | 10,ho =>
   obtain rfl:=Option.some.inj ho
   have g9:f 9 = .pointer (some ⟨mb,1,none⟩):=hD 9 (hall ⟨9,.data⟩ (by simp) rfl) _ rfl
   have z1:=cellV ⟨mb,1,none⟩ _ (za HM1)
   have z2:=cellV ⟨mb,2,none⟩ _ (za HM2)
   clear hall hD hbel cellV
   rw [if_pos (by rfl)]
   unfold Oper.wp
   go_simp
   exact ⟨upd f 10 (.agg #[.int .i64 next,.slice (some ⟨g,0,none⟩) l.length cap]),by simp [upd,g9],zn (za HBV) (za HD) (by decide) (fun u hu=>by cases hu; rfl)⟩
  | 11,ho =>
   obtain rfl:=Option.some.inj ho
   clear hall hD hbel cellV
   rw [if_pos (by rfl)]
   unfold Oper.wp
   go_simp
   exact ⟨upd f 11 (.pointer (some ⟨w.heap.size,0,none⟩)),by simp [upd],zn (za HBV) (za HD) (by decide) (fun u hu=>by cases hu; rfl)⟩
  | 12,ho =>
   obtain rfl:=Option.some.inj ho
   have g11:f 11 = .pointer (some ⟨w.heap.size,0,none⟩):=hD 11 (hall ⟨11,.data⟩ (by simp) rfl) _ rfl
   have z3:=cellV ⟨w.heap.size,0,none⟩ _ (za HK0)
   clear hall hD hbel cellV
   rw [if_pos (by rfl)]
   unfold Oper.wp
   go_simp
   exact ⟨upd f 12 (.int .i64 id),by simp [upd,g11],zn (za HBV) (za HD) (by decide) (fun u hu=>by cases hu; rfl)⟩
  | 13,ho =>
   obtain rfl:=Option.some.inj ho
   have g10:f 10 = .agg #[.int .i64 next,.slice (some ⟨g,0,none⟩) l.length cap]:=hD 10 (hall ⟨10,.data⟩ (by simp) rfl) _ rfl
   have g12:f 12 = .int .i64 id:=hD 12 (hall ⟨12,.data⟩ (by simp) rfl) _ rfl
   clear hall hD hbel cellV
   rw [if_pos (by rfl)]
   unfold Oper.wp
   go_simp
   refine (zbo next _ l id V (za HRV)).mono ?_
   rw [za HPL]
   rintro e w4 ⟨rfl,hb4⟩
   exact ⟨upd f 13 (.int .i64 k),by simp [upd,g10,g12],zcr dvE_mono (za HBV) (za HD) hb4 (by decide) (fun u hu=>by cases hu; rfl)⟩
  | 14,ho =>
   obtain rfl:=Option.some.inj ho
   have g5:f 5 = .slice (some ⟨g,0,none⟩) l.length cap:=hD 5 (hall ⟨5,.data⟩ (by simp) rfl) _ rfl
   have g13:f 13 = .int .i64 k:=hD 13 (hall ⟨13,.data⟩ (by simp) rfl) _ rfl
   clear hall hD hbel cellV
   rw [if_pos (by rfl)]
   unfold Oper.wp
   go_simp
   exact ⟨upd f 14 (.pointer (some ⟨g,k * 6,none⟩)),by simp [upd,g5,g13],zn (za HBV) (za HD) (by decide) (fun u hu=>by cases hu; rfl)⟩
  | 15,ho =>
   obtain rfl:=Option.some.inj ho
   have g14:f 14 = .pointer (some ⟨g,k * 6,none⟩):=hD 14 (hall ⟨14,.data⟩ (by simp) rfl) _ rfl
   clear hall hD hbel cellV
   rw [if_pos (by rfl)]
   unfold Oper.wp
   go_simp
   exact ⟨upd f 15 (.pointer (some ⟨g,k * 6 + 3,none⟩)),by simp [upd,g14],zn (za HBV) (za HD) (by decide) (fun u hu=>by cases hu; rfl)⟩
  | 16,ho =>
   obtain rfl:=Option.some.inj ho
   have g15:f 15 = .pointer (some ⟨g,k * 6 + 3,none⟩):=hD 15 (hall ⟨15,.data⟩ (by simp) rfl) _ rfl
   have z3:=cellV ⟨g,k * 6 + 3,none⟩ _ (za HG3)
   clear hall hD hbel cellV
   rw [if_pos (by rfl)]
   unfold Oper.wp
   go_simp
   exact ⟨upd f 16 (.int .i64 c.left),by simp [upd,g15],zn (za HBV) (za HD) (by decide) (fun u hu=>by cases hu; rfl)⟩
  | 17,ho =>
   obtain rfl:=Option.some.inj ho
   have g16:f 16 = .int .i64 c.left:=hD 16 (hall ⟨16,.data⟩ (by simp) rfl) _ rfl
   clear hall hD hbel cellV
   rw [if_pos (by rfl)]
   unfold Oper.wp
   go_simp
   exact ⟨upd f 17 (.int .i64 c.left),by simp [upd,g16],zn (za HBV) (za HD) (by decide) (fun u hu=>by cases hu; rfl)⟩
  | i + 18,ho=>simp at ho
def ndy (o:Od):Bool:=!(o.life == 1)
theorem fdyF_spec:∀ (l:List Od) (k:Nat),(fdyF l k = -1∧l.filter ndy = l) ∨ ∃ i o,fdyF l k = ((k + i:Nat):Int)∧l[i]? = some o∧o.life = 1∧(l.take i).filter ndy = l.take i
 | [],k=>.inl ⟨rfl,rfl⟩
 | o :: r,k=>by
  by_cases h:o.life = 1
  ·exact .inr ⟨0,o,by rw [fdyF,if_pos h]; rfl,rfl,h,rfl⟩
  ·have hn:ndy o = true:=by simp [ndy,h]
   rcases fdyF_spec r (k + 1) with ⟨h1,h2⟩ | ⟨i,o',h1,h2,h3,h4⟩
   ·exact .inl ⟨by rw [fdyF,if_neg h,h1],by rw [List.filter_cons_of_pos hn,h2]⟩
   ·exact .inr ⟨i + 1,o',by rw [fdyF,if_neg h,h1]; congr 1; omega,h2,h3,by rw [List.take_succ_cons,List.filter_cons_of_pos hn,h4]⟩
theorem take_day {l:List Od} {j:Nat} {o:Od} (h:l[j]? = some o) (hd:o.life = 1):(l.take (j + 1)).filter ndy = (l.take j).filter ndy:=by
 rw [List.take_add_one,h,List.filter_append]
 simp [ndy,hd]
theorem take_stay {l:List Od} {j:Nat} {o:Od} (h:l[j]? = some o) (hd:o.life ≠ 1):(l.take (j + 1)).filter ndy = (l.take j).filter ndy ++ [o]:=by
 rw [List.take_add_one,h,List.filter_append]
 simp [ndy,hd]
theorem oRow_put {W:World} {B g n cap k:Nat} {m:List Od} {c x:Od} (h:ORow W B (.slice (some ⟨g,0,none⟩) n cap) m) (hn:m.length = n) (hk:m[k]? = some c) :
  ORow (W.setCells g (k * 6) x.vs) B (.slice (some ⟨g,0,none⟩) n cap) (m.set k x)∧W.grownBy (W.setCells g (k * 6) x.vs) (some g):=by
 have hkl:=(List.getElem?_eq_some_iff.1 hk).1
 have one:∀ (W:World) (m:List Od) (c d:Od) (j:Nat) (u:Value),ORow W B (.slice (some ⟨g,0,none⟩) n cap) m→m.length = n→m[k]? = some c→j < 6→d.vs = c.vs.set j u →
   ORow (W.setCell ⟨g,k * 6 + j,none⟩ u) B (.slice (some ⟨g,0,none⟩) n cap) (m.set k d)∧W.grownBy (W.setCell ⟨g,k * 6 + j,none⟩ u) (some g):=by
  intro W m c d j u h hn hk hj hd
  subst hn
  have s:=World.ownsRow.stored h (k * 6 + j) u
  refine ⟨?_,s.2⟩
  have e:=flat_set Od.len m k j c d u hk hj hd
  show World.ownsRow _ _ _ _ _ (m.set k _).length _
  rw [List.length_set,← e]; exact s.1
 have gs:∀ (m:List Od) (d:Od),m.length = n→k < m.length→(m.set k d)[k]? = some d:=fun m d _ hk=>List.getElem?_set_self hk
 obtain ⟨xi,xs,xt,xl,xf,xg⟩:=x
 obtain ⟨ci,cs,ct,cl,cf,cg⟩:=c
 have a0:=one W m ⟨ci,cs,ct,cl,cf,cg⟩ ⟨xi,cs,ct,cl,cf,cg⟩ 0 (.int .i64 xi) h hn hk (by omega) rfl
 have a1:=one _ _ ⟨xi,cs,ct,cl,cf,cg⟩ ⟨xi,xs,ct,cl,cf,cg⟩ 1 (.int .i64 xs) a0.1 (by simp [hn]) (gs m _ hn hkl) (by omega) rfl
 rw [List.set_set] at a1
 have a2:=one _ _ ⟨xi,xs,ct,cl,cf,cg⟩ ⟨xi,xs,xt,cl,cf,cg⟩ 2 (.int .i64 xt) a1.1 (by simp [hn]) (gs m _ hn hkl) (by omega) rfl
 rw [List.set_set] at a2
 have a3:=one _ _ ⟨xi,xs,xt,cl,cf,cg⟩ ⟨xi,xs,xt,xl,cf,cg⟩ 3 (.int .i64 xl) a2.1 (by simp [hn]) (gs m _ hn hkl) (by omega) rfl
 rw [List.set_set] at a3
 have a4:=one _ _ ⟨xi,xs,xt,xl,cf,cg⟩ ⟨xi,xs,xt,xl,xf,cg⟩ 4 (.int .i64 xf) a3.1 (by simp [hn]) (gs m _ hn hkl) (by omega) rfl
 rw [List.set_set] at a4
 have a5:=one _ _ ⟨xi,xs,xt,xl,xf,cg⟩ ⟨xi,xs,xt,xl,xf,xg⟩ 5 (.string xg) a4.1 (by simp [hn]) (gs m _ hn hkl) (by omega) rfl
 rw [List.set_set] at a5
 exact ⟨a5.1,a0.2.trans (a1.2.trans (a2.2.trans (a3.2.trans (a4.2.trans a5.2))))⟩
theorem clear_rowN {P:Program} (w:World) (T ty e:TypeId) (i:TypeInfo) (z:Value) (ht:P.underlying T = some (.slice e)) (hi:P.info? e = some i) (hz:i.zero = some z) (g o m c:Nat) (cur:Array Value) (hg:w.heap[g]? = some (.cells cur e (0,0)))
  (hfit:o + (Builtin.zeroCells z.cells (m + 1)).toList.length ≤ cur.size) (h1:∀ v ∈ (Builtin.zeroCells z.cells (m + 1)).toList,v.oneCell' = true) :
  (Builtin.clear_ #[T] ty #[.slice (some ⟨g,o,none⟩) (m + 1) c]).run P w = .ok (.tuple #[]) (w.setRow g (cur.toList.take o ++ (Builtin.zeroCells z.cells (m + 1)).toList ++ cur.toList.drop (o + (Builtin.zeroCells z.cells (m + 1)).toList.length)).toArray):=by
 have hst:=run_storeCells_at P g o e (Builtin.zeroCells z.cells (m + 1)).toList 0 cur w hg (by simpa using hfit) h1
 simp only [Nat.add_zero] at hst
 simp [Builtin.clear_,run_underlying ht,zeroValue,typeInfo,hi,hz,hst]
theorem zero_len (m:Nat):(Builtin.zeroCells (Value.cells (.agg #[.int .i64 0,.int .i64 0,.int .i64 0,.int .i64 0,.int .i64 0,.string ⟨#[]⟩])) m).toList.length = m * 6:=by
 simp [Builtin.zeroCells,Value.cells]
theorem zero_one (m:Nat):∀ v ∈ (Builtin.zeroCells (Value.cells (.agg #[.int .i64 0,.int .i64 0,.int .i64 0,.int .i64 0,.int .i64 0,.string ⟨#[]⟩])) m).toList,v.oneCell' = true:=by
 intro v hv
 simp only [Builtin.zeroCells,Value.cells,Array.toList_map,List.mem_map] at hv
 obtain ⟨i,_,rfl⟩:=hv
 show (#[Value.int .i64 0,.int .i64 0,.int .i64 0,.int .i64 0,.int .i64 0,.string ⟨#[]⟩][i % 6]!).oneCell' = true
 rcases (by omega:i % 6 = 0 ∨ i % 6 = 1 ∨ i % 6 = 2 ∨ i % 6 = 3 ∨ i % 6 = 4 ∨ i % 6 = 5) with e | e | e | e | e | e <;> rw [e] <;> rfl
theorem drop_eq {l m:List Od} {j:Nat} (h:m.drop j = l.drop j):m[j]? = l[j]?:=by
 have:=congrArg (·[0]?) h
 simpa using this
theorem drop_more {l m:List Od} {j:Nat} (h:m.drop j = l.drop j):m.drop (j + 1) = l.drop (j + 1):=by
 have:=congrArg (List.drop 1) h
 simpa using this
set_option maxRecDepth 100000 in
set_option maxHeartbeats 6400000 in
theorem deleteDay_any (g cap B:Nat) (l:List Od) (w:World) (hn:l.length ≤ 1000) (ho:ORow w B (.slice (some ⟨g,0,none⟩) l.length cap) l) :
  Calls Tryz.prog 77 #[.slice (some ⟨g,0,none⟩) l.length cap,.func (.func 76) #[] #[]] w fun e w'=>e = .returned (.slice (some ⟨g,0,none⟩) (l.filter ndy).length cap)∧ORow w' B (.slice (some ⟨g,0,none⟩) (l.filter ndy).length cap) (l.filter ndy)∧w.grownBy w' (some g):=by
 obtain ⟨i0,hi0,hz0,hz1,hz2⟩:=info_parts Tryz.infoOrder
 have HO:=hide ho
 have hgw:g < w.heap.size:=(ho.lt g rfl).2
 clear ho
 go_enter Tryz.func77,Tryz.ntmps77
 go_wp2_with fail
 refine (indexDay_any _ l w (zM (za HO) (by omega))).mono ?_
 rcases fdyF_spec l 0 with ⟨h1,h2⟩ | ⟨i,o,h1,h2,h3,h4⟩
 ·have hf:fdy l = -1:=h1
  rw [hf]
  rintro e w2 ⟨rfl,hb2⟩
  have HO2:=hide (zk (za HO) hb2)
  have HG2:Hid (w.grownBy w2 (some g)):=zaa hb2 (Nat.le_refl _)
  have HF:=hide h2
  clear hb2 h1 h2 hf
  go_wp2_with fail
  go_ret
  rw [za HF]
  exact ⟨rfl,za HO2,za HG2⟩
 ·have hf:fdy l = (i:Int):=by rw [fdy,h1]; congr 1; omega
  rw [hf]
  rintro e w2 ⟨rfl,hb2⟩
  have hil:=(List.getElem?_eq_some_iff.1 h2).1
  have HST:Hid (∃ m:List Od,m.length = l.length∧ORow w2 B (.slice (some ⟨g,0,none⟩) l.length cap) m∧m.take i = (l.take (i + 1)).filter ndy∧m.drop (i + 1) = l.drop (i + 1)∧w.grownBy w2 (some g)):=⟨l,rfl,zk (za HO) hb2,by rw [take_day h2 h3,h4],rfl,zaa hb2 (Nat.le_refl _)⟩
  have HIL:Hid (((l.take (i + 1)).filter ndy).length = i):=by show _ = _; rw [take_day h2 h3,h4,List.length_take]; omega
  have hi1:(i:Int) ≠ -1:=by omega
  have hi1':((i:Int) == -1) = false:=by rw [beq_eq_false_iff_ne]; exact hi1
  clear hb2 h1 h2 h3 h4 hf
  go_wp2_with fail
  go_loopw [5,6] (fun iv jv wr=>∃ (k j:Nat) (m:List Od),j ≤ l.length∧k < j∧iv = .int .i64 k∧jv = .int .i64 j∧Hid (m.length = l.length∧ORow wr B (.slice (some ⟨g,0,none⟩) l.length cap) m∧m.take k = (l.take j).filter ndy∧((l.take j).filter ndy).length = k∧m.drop j = l.drop j∧w.grownBy wr (some g))) (fun _ jv _=>l.length - (intOf jv).toNat)
  case atStart =>
   obtain ⟨m,a1,a2,a3,a4,a5⟩:=za HST
   exact ⟨i,i + 1,m,by omega,by omega,rfl,by go_num,⟨a1,a2,a3,za HIL,a4,a5⟩⟩
  case round =>
   obtain ⟨k,j,m,hj,hkj,rfl,rfl,hin⟩:=hrel
   obtain ⟨a1,a2,a3,a4,a5,a6⟩:=za hin
   by_cases hlt:j < l.length
   ·obtain ⟨o,hjo⟩:∃ o,l[j]? = some o:=⟨_,List.getElem?_eq_getElem hlt⟩
    have hmo:m[j]? = some o:=(drop_eq a5).trans hjo
    obtain ⟨c,hkc⟩:∃ c,m[k]? = some c:=⟨_,List.getElem?_eq_getElem (by omega)⟩
    obtain ⟨g0,g1,g2,g3,g4,g5⟩:=zD (row_hereE a2 (by omega) hmo).1
    have hlt':(j:Int) < l.length:=by omega
    have hj0:(0:Int) ≤ j:=by omega
    have hgr:g < wr.heap.size:=(a2.lt g rfl).2
    have HJO:=hide hjo
    have HKC:=hide hkc
    have hbx:Below wr.heap.size wr (wr.alloc (Obj.cells #[.int .i64 o.id,.int .i64 o.side,.int .i64 o.ticks,.int .i64 o.left,.int .i64 o.life,.string o.tag] 78)):=(Below.refl _ _).alloc (Nat.le_refl _) _
    have HBX:=hide hbx
    have HBR:Hid (World.rangeAt (wr.alloc (Obj.cells #[.int .i64 o.id,.int .i64 o.side,.int .i64 o.ticks,.int .i64 o.left,.int .i64 o.life,.string o.tag] 78)) wr.heap.size 0 o.vs):=zh wr o.vs _
    have hsx:wr.heap.size < (wr.alloc (Obj.cells #[.int .i64 o.id,.int .i64 o.side,.int .i64 o.ticks,.int .i64 o.left,.int .i64 o.life,.string o.tag] 78)).heap.size:=by rw [ze]; omega
    clear hjo hmo hkc hbx a1 a2 a3 a4 a5 a6
    go_wp2_with fail
    generalize (wr.alloc (Obj.cells #[.int .i64 o.id,.int .i64 o.side,.int .i64 o.ticks,.int .i64 o.left,.int .i64 o.life,.string o.tag] 78)) = Y at HBX HBR hsx ⊢
    refine (zcl o Y).mono ?_
    rintro e w3 ⟨rfl,hb3⟩
    have HB3:=hide ((za HBX).trans (hb3.mono (za HBX).size))
    have hbr:=zb (za HBR) hb3 hsx
    have x0:w3.cell? ⟨wr.heap.size,0,none⟩ = some (.int .i64 o.id):=hbr 0 _ rfl
    have x1:w3.cell? ⟨wr.heap.size,1,none⟩ = some (.int .i64 o.side):=hbr 1 _ rfl
    have x2:w3.cell? ⟨wr.heap.size,2,none⟩ = some (.int .i64 o.ticks):=hbr 2 _ rfl
    have x3:w3.cell? ⟨wr.heap.size,3,none⟩ = some (.int .i64 o.left):=hbr 3 _ rfl
    have x4:w3.cell? ⟨wr.heap.size,4,none⟩ = some (.int .i64 o.life):=hbr 4 _ rfl
    have x5:w3.cell? ⟨wr.heap.size,5,none⟩ = some (.string o.tag):=hbr 5 _ rfl
    clear hb3 hbr g0 g1 g2 g3 g4 g5
    obtain ⟨a1,a2,a3,a4,a5,a6⟩:=za hin
    have a2':=zk a2 (za HB3)
    have HA2:=hide a2'
    have HG3:Hid (w.grownBy w3 (some g)):=a6.trans (zaa (za HB3) (Nat.le_refl _))
    have HA:Hid (m.length = l.length∧m.take k = (l.take j).filter ndy∧((l.take j).filter ndy).length = k∧m.drop j = l.drop j):=⟨a1,a3,a4,a5⟩
    have hck:=row_hereE a2' (by omega) (za HKC)
    by_cases hd:o.life = 1
    ·have hb:(o.life == 1) = true:=by simpa using hd
     have HN:Hid (m.length = l.length∧ORow w3 B (.slice (some ⟨g,0,none⟩) l.length cap) m∧m.take k = (l.take (j + 1)).filter ndy∧((l.take (j + 1)).filter ndy).length = k∧m.drop (j + 1) = l.drop (j + 1)∧w.grownBy w3 (some g)):=by
      rw [take_day (za HJO) hd]
      exact ⟨a1,a2',a3,a4,drop_more a5,za HG3⟩
     clear hd a1 a2 a3 a4 a5 a6 a2' hck
     go_wp2_with fail
     go_roundw
     case rel=>exact ⟨k,j + 1,m,by omega,by omega,rfl,by go_num,za HN⟩
     case measure=>simp [intOf]; omega
    ·have hb:(o.life == 1) = false:=by rw [beq_eq_false_iff_ne]; exact hd
     have hput:=oRow_put (x:=o) a2' a1 (za HKC)
     have HN:Hid ((m.set k o).length = l.length∧ORow (w3.setCells g (k * 6) o.vs) B (.slice (some ⟨g,0,none⟩) l.length cap) (m.set k o)∧(m.set k o).take (k + 1) = (l.take (j + 1)).filter ndy∧((l.take (j + 1)).filter ndy).length = k + 1∧(m.set k o).drop (j + 1) = l.drop (j + 1)∧w.grownBy (w3.setCells g (k * 6) o.vs) (some g)):=by
      rw [take_stay (za HJO) hd]
      refine ⟨by rw [List.length_set]; exact a1,hput.1,?_,by rw [List.length_append,a4]; rfl,?_,(za HG3).trans hput.2⟩
      ·rw [List.take_add_one,List.getElem?_set_self (by omega),List.take_set_of_le (Nat.le_refl _),a3]; rfl
      ·rw [List.drop_set_of_lt (by omega)]; exact drop_more a5
     obtain ⟨p0,p1,p2,p3,p4,p5⟩:=zD hck.1
     have q0:w3.frozen? ⟨g,k * 6,none⟩ = false:=hck.2 0 (by omega)
     have q1:w3.frozen? ⟨g,k * 6 + 1,none⟩ = false:=hck.2 1 (by omega)
     have q2:w3.frozen? ⟨g,k * 6 + 2,none⟩ = false:=hck.2 2 (by omega)
     have q3:w3.frozen? ⟨g,k * 6 + 3,none⟩ = false:=hck.2 3 (by omega)
     have q4:w3.frozen? ⟨g,k * 6 + 4,none⟩ = false:=hck.2 4 (by omega)
     have q5:w3.frozen? ⟨g,k * 6 + 5,none⟩ = false:=hck.2 5 (by omega)
     have hkl:(k:Int) < l.length:=by omega
     have hk0:(0:Int) ≤ k:=by omega
     clear hd a1 a2 a3 a4 a5 a6 a2' hck hput
     go_wp2_with fail
     go_roundw
     case rel=>exact ⟨k + 1,j + 1,m.set k o,by omega,by omega,by go_num,by go_num,za HN⟩
     case measure=>simp [intOf]; omega
   ·obtain rfl:j = l.length:=by omega
    rw [List.take_of_length_le (Nat.le_refl _)] at a3 a4
    obtain ⟨mm,hmm⟩:∃ mm,l.length - k = mm + 1:=⟨l.length - k - 1,by omega⟩
    rcases a2.2 with ⟨hbad,_⟩ | ⟨g',cap',cur,hv,hBg,hgg,hcap,hmx,hsz,htk⟩
    ·cases hbad
    simp only [Value.slice.injEq,Option.some.injEq,Addr.mk.injEq,and_true] at hv
    obtain ⟨rfl,-,rfl⟩:=hv
    have hzl:=zero_len (mm + 1)
    have hfit:k * 6 + (mm + 1) * 6 ≤ cur.size:=by rw [hsz]; omega
    have hcl:∀ (ty:TypeId) (c:Nat),(Builtin.clear_ #[44] ty #[.slice (some ⟨g,k * 6,none⟩) (l.length - k) c]).run Tryz.prog wr = .ok (.tuple #[]) (wr.setRow g (cur.toList.take (k * 6) ++ (Builtin.zeroCells (Value.cells (.agg #[.int .i64 0,.int .i64 0,.int .i64 0,.int .i64 0,.int .i64 0,.string ⟨#[]⟩])) (mm + 1)).toList ++ cur.toList.drop (k * 6 + (mm + 1) * 6)).toArray):=fun ty c=>by
     rw [hmm]
     have:=clear_rowN wr 44 ty 78 i0 _ Tryz.underlying44 hi0 hz0 g (k * 6) mm c cur hgg (by rw [hzl]; exact hfit) (zero_one _)
     rw [hzl] at this
     exact this
    generalize hZ:(Builtin.zeroCells (Value.cells (.agg #[.int .i64 0,.int .i64 0,.int .i64 0,.int .i64 0,.int .i64 0,.string ⟨#[]⟩])) (mm + 1)).toList = Z at hzl hcl
    have hl2:(cur.toList.take (k * 6) ++ Z ++ cur.toList.drop (k * 6 + (mm + 1) * 6)).length = cap * 6:=by
     have hcl:cur.toList.length = cap * 6:=by simpa using hsz
     rw [List.length_append,List.length_append,hzl,List.length_take,List.length_drop,hcl]; rw [hsz] at hfit; omega
    have ht2:(cur.toList.take (k * 6) ++ Z ++ cur.toList.drop (k * 6 + (mm + 1) * 6)).take (k * 6) = (l.filter ndy).flatMap Od.vs:=by
     have hcl:cur.toList.length = cap * 6:=by simpa using hsz
     have hkc:(cur.toList.take (k * 6)).length = k * 6:=by rw [List.length_take,hcl]; rw [hsz] at hfit; omega
     rw [List.append_assoc,List.take_append_of_le_length (by omega),List.take_of_length_le (by omega)]
     have h:=congrArg (List.take (k * 6)) htk
     rw [List.take_take,show min (k * 6) (m.length * 6) = k * 6 by omega] at h
     rw [h,← a3]
     conv=>lhs; rw [← List.take_append_drop k m,List.flatMap_append]
     rw [List.take_append_of_le_length (by rw [zJ Od.len,List.length_take]; omega),List.take_of_length_le (by rw [zJ Od.len,List.length_take]; omega)]
    have HX2:=hide (setRow_heap wr g cur (cur.toList.take (k * 6) ++ Z ++ cur.toList.drop (k * 6 + (mm + 1) * 6)).toArray 78 (0,0) hgg)
    have HG2:Hid (w.grownBy (wr.setRow g (cur.toList.take (k * 6) ++ Z ++ cur.toList.drop (k * 6 + (mm + 1) * 6)).toArray) (some g)):=a6.trans ⟨rfl,rfl,rfl,by simp,fun q hq hne=>setRow_other wr g q _ (fun e=>hne (by rw [e]))⟩
    generalize (cur.toList.take (k * 6) ++ Z ++ cur.toList.drop (k * 6 + (mm + 1) * 6)) = C2 at hl2 ht2 hcl HX2 HG2
    have HFK:=hide a4
    have HL2:=hide hl2
    have HT2:=hide ht2
    have HMM:=hide hmm
    have k1:¬ cap = k:=by omega
    have k2:(k:Int) ≤ l.length:=by omega
    have k3:(0:Int) ≤ k:=by omega
    have k4:(l.length:Int) ≤ cap:=by omega
    have k5:(k:Int) ≤ cap:=by omega
    have k6:¬ (l.length:Int) < l.length:=by omega
    have HB:=hide (And.intro hBg (And.intro hmx hcap))
    clear hzl hZ hl2 ht2 hmm hfit htk hsz hgg a1 a2 a3 a4 a5 a6 hlt hj hin HST HIL
    go_wp2_with fail
    go_ret
    have e:=za HFK
    refine ⟨by rw [e]; rfl,⟨by rw [zJ Od.len],.inr ⟨g,cap,C2.toArray,by rw [e],(za HB).1,za HX2,by rw [e]; omega,(za HB).2.1,by simpa using za HL2,by rw [e]; simpa using za HT2⟩⟩,za HG2⟩
end Go.Proofs.YtopjoogdpjaocaaGreat
