/-
  A trade with the front, by the program: proved by walking the method.
-/
import Derived.Test.YtopjoogdpjaocaaGreatTj11
set_option linter.unusedVariables false
set_option maxHeartbeats 6400000
set_option maxRecDepth 100000
namespace Go.Proofs.YtopjoogdpjaocaaGreat
open Go.RowKit
structure MatS (mb B:Nat) (W:World) (next:Int) (vq:Value) (l:List Od) (t:Od) (vt:Value) (ts:List Ev):Prop where
 cells:W.rangeAt mb 0 [.int .i64 next,vq,.int .i64 t.id,.int .i64 t.side,.int .i64 t.ticks,.int .i64 t.left,.int .i64 t.life,.string t.tag,vt]
 there:W.there mb 0 9
 orow:ORow W B vq l
 erow:ERow W B vt ts
 box:∃ cur,W.heap[mb]? = some (.cells cur 126 (0,0))
 le:B ≤ W.heap.size
structure KeptBut (mb B:Nat) (w w':World):Prop where
 os:w'.os = w.os
 tape:w'.tape = w.tape
 output:w'.output = w.output
 size:w.heap.size ≤ w'.heap.size
 block:∀ k,k < B→k ≠ mb→w'.heap[k]? = w.heap[k]?
theorem zi {mb B:Nat} {w w1 w2:World} (h1:KeptBut mb B w w1) (h2:KeptBut mb B w1 w2):KeptBut mb B w w2 :=
 ⟨h2.os.trans h1.os,h2.tape.trans h1.tape,h2.output.trans h1.output,Nat.le_trans h1.size h2.size,fun k hk hm=>(h2.block k hk hm).trans (h1.block k hk hm)⟩
theorem zA {mb B C:Nat} {w w1:World} (h:Below C w w1) (hC:B ≤ C):KeptBut mb B w w1 :=
 ⟨h.os,h.tape,h.output,h.size,fun k hk _=>h.block k (by omega)⟩
theorem zaY {mb B o:Nat} {G:Option Nat} {w w1:World} (h:TookAt mb o G w w1) (hB:B ≤ w.heap.size) (hG:∀ g,G = some g→B ≤ g):KeptBut mb B w w1 :=
 ⟨h.os,h.tape,h.output,h.size,fun k hk hm=>h.block k (by omega) hm (fun e=>by have:=hG k e.symm; omega)⟩
theorem zbv {mb B:Nat} (w:World) (o:Nat) (u:Value):KeptBut mb B w (w.setCell ⟨mb,o,none⟩ u) :=
 ⟨rfl,rfl,rfl,by simp [World.setCell],fun k _ hm=>Below.heap_setCell _ _ _ _ hm⟩
theorem kept_drew {mb B:Nat} {w w1:World} (h:KeptBut mb B w w1):KeptBut mb B w w1.drew:=⟨h.os,h.tape,h.output,h.size,h.block⟩
theorem zam {p o B e sz n:Nat} {G:Option Nat} {v:Value} {xs:List Value} {w w':World} (h:w.ownsRow B e sz v n xs) (ht:TookAt p o G w w') (hp:some p ≠ v.ownBlock) (hne:v.ownBlock = none ∨ v.ownBlock ≠ G):w'.ownsRow B e sz v n xs:=by
 refine ⟨h.1,?_⟩
 rcases h.2 with hn | ⟨g,cap,cur,rfl,hb,hgg,rest⟩
 ·exact .inl hn
 ·refine .inr ⟨g,cap,cur,rfl,hb,?_,rest⟩
  rw [ht.block g (Array.getElem?_eq_some_iff.1 hgg).1 (by simpa [Value.ownBlock] using Ne.symm hp) (by simpa [Value.ownBlock] using hne)]
  exact hgg
theorem zj {B e sz n b:Nat} {T:TypeId} {v:Value} {xs:List Value} {w:World} (h:w.ownsRow B e sz v n xs) (hb:∃ cur,w.heap[b]? = some (.cells cur T (0,0))) (hne:T ≠ e):some b ≠ v.ownBlock:=by
 obtain ⟨cb,hb⟩:=hb
 rcases h.2 with ⟨rfl,_⟩ | ⟨g,cap,cur,rfl,_,hgg,rest⟩
 ·simp [Value.ownBlock]
 ·intro e0
  simp only [Value.ownBlock,Option.some.injEq] at e0
  subst e0
  rw [hb] at hgg
  simp only [Option.some.injEq,Obj.cells.injEq] at hgg
  exact hne hgg.2.1
theorem MatS.nq {mb B:Nat} {W:World} {next:Int} {vq:Value} {l:List Od} {t:Od} {vt:Value} {ts:List Ev} (h:MatS mb B W next vq l t vt ts):some mb ≠ vq.ownBlock:=zj h.orow h.box (by decide)
theorem MatS.nt {mb B:Nat} {W:World} {next:Int} {vq:Value} {l:List Od} {t:Od} {vt:Value} {ts:List Ev} (h:MatS mb B W next vq l t vt ts):some mb ≠ vt.ownBlock:=zj h.erow h.box (by decide)
theorem MatS.lt {mb B:Nat} {W:World} {next:Int} {vq:Value} {l:List Od} {t:Od} {vt:Value} {ts:List Ev} (h:MatS mb B W next vq l t vt ts):mb < W.heap.size:=by
 obtain ⟨cur,h⟩:=h.box
 exact (Array.getElem?_eq_some_iff.1 h).1
theorem zB {B B' e e' sz sz' n n':Nat} {v v':Value} {xs xs':List Value} {w:World} (h:w.ownsRow B e sz v n xs) (h':w.ownsRow B' e' sz' v' n' xs') (hne:e ≠ e'):v.ownBlock = none ∨ v.ownBlock ≠ v'.ownBlock:=by
 rcases h.2 with ⟨rfl,_⟩ | ⟨g,cap,cur,rfl,hb,hgg,rest⟩
 ·exact .inl rfl
 ·refine .inr ?_
  rcases h'.2 with ⟨rfl,_⟩ | ⟨g',cap',cur',rfl,hb',hgg',rest'⟩
  ·simp [Value.ownBlock]
  ·intro e0
   simp only [Value.ownBlock,Option.some.injEq] at e0
   subst e0
   rw [hgg] at hgg'
   simp only [Option.some.injEq,Obj.cells.injEq] at hgg'
   exact hne hgg'.2.1
set_option maxRecDepth 100000 in
set_option maxHeartbeats 3200000 in
theorem trade_any (mb B:Nat) (next:Int) (vq:Value) (l:List Od) (t:Od) (vt:Value) (ts:List Ev) (o:Od) (k:Nat) (w:World) (h:MatS mb B w next vq l t vt ts)
  (hk:plc l o.id = k) (hc:l[k]? = some o) (hn:l.length ≤ 1000) (hts:ts.length ≤ 1000) (ht0:0 ≤ t.left) (ht1:t.left ≤ 1000000) (ho0:0 ≤ o.left) (ho1:o.left ≤ 1000000) (qty:Int) (hq:qty = min t.left o.left) :
  Calls Tryz.prog 97 #[.pointer (some ⟨mb,0,none⟩),.agg #[.int .i64 o.id,.int .i64 o.side,.int .i64 o.ticks,.int .i64 o.left,.int .i64 o.life,.string o.tag]] w fun e w' =>
   ∃ vq' vt',e = .returned (.tuple #[])∧MatS mb B w' next vq' (zau l k o qty) { t with left:=t.left - qty } vt' (ts ++ [trE t.id o.id qty o.ticks])∧KeptBut mb B w w':=by
 obtain ⟨oid,oside,oticks,oleft,olife,otag⟩:=o
 simp only at *
 have HM:=hide h
 have hmw:=h.lt
 have hBw:=h.le
 have hnq:=h.nq
 have hnt:=h.nt
 have HB1:Hid (Below w.heap.size w (w.alloc (Obj.cells #[.int .i64 oid,.int .i64 oside,.int .i64 oticks,.int .i64 oleft,.int .i64 olife,.string otag] 78))):=(Below.refl _ _).alloc (Nat.le_refl _) _
 have hr1:=zb h.cells (za HB1) hmw
 have hf1:=zh w [.int .i64 oid,.int .i64 oside,.int .i64 oticks,.int .i64 oleft,.int .i64 olife,.string otag] 78
 have y5:=hr1 5 _ rfl
 have z3:=hf1 3 _ rfl
 simp only [Nat.zero_add] at y5 z3
 have HR1:=hide hr1
 have HF1:=hide hf1
 have HK:=hide hk
 have HC:=hide hc
 have HQ:=hide hq
 clear h hr1 hf1 hk hc hq
 go_enter Tryz.func97,Tryz.ntmps97
 go_wp2_with fail
 have HF1:Hid (World.rangeAt (w.alloc (Obj.cells #[.int .i64 oid,.int .i64 oside,.int .i64 oticks,.int .i64 oleft,.int .i64 olife,.string otag] 78)) w.heap.size 0 [.int .i64 oid,.int .i64 oside,.int .i64 oticks,.int .i64 oleft,.int .i64 olife,.string otag]):=za HF1
 have z3:World.cell? (w.alloc (Obj.cells #[.int .i64 oid,.int .i64 oside,.int .i64 oticks,.int .i64 oleft,.int .i64 olife,.string otag] 78)) ⟨w.heap.size,3,none⟩ = some (.int .i64 oleft):=z3
 generalize (w.alloc (Obj.cells #[.int .i64 oid,.int .i64 oside,.int .i64 oticks,.int .i64 oleft,.int .i64 olife,.string otag] 78)) = W1 at HB1 HR1 HF1 y5 z3 ⊢
 have hmin:∀ W,(Builtin.min_ #[3,3] 3 #[.int .i64 t.left,.int .i64 oleft]).run Tryz.prog W = .ok (.int .i64 qty) W:=fun W=>by
  rw [za HQ]
  by_cases hle:t.left ≤ oleft
  ·rw [Int.min_eq_left hle]; go_simp; omega
  ·rw [Int.min_eq_right (by omega)]; go_simp
 go_quiet (fail)
 go_wp2_with fail
 have hB0:Hid (Below w.heap.size w (W1.drewN nq)):=zai (za HB1) nq
 have hM:Hid ((W1.drewN nq).rangeAt mb 0 [.int .i64 next,vq,.int .i64 t.id,.int .i64 t.side,.int .i64 t.ticks,.int .i64 t.left,.int .i64 t.life,.string t.tag,vt]):=za HR1
 have hFF:Hid ((W1.drewN nq).rangeAt w.heap.size 0 [.int .i64 oid,.int .i64 oside,.int .i64 oticks,.int .i64 oleft,.int .i64 olife,.string otag]):=za HF1
 have hT9:Hid ((W1.drewN nq).there mb 0 9):=zf (za HM).there (za hB0) hmw
 have HROW:Hid (ERow (W1.drewN nq) B vt ts):=zI (za HM).erow (za hB0)
 have HBX:Hid (∃ cur,(W1.drewN nq).heap[mb]? = some (.cells cur 126 (0,0))):=by obtain ⟨cur,hc⟩:=(za HM).box; exact ⟨cur,((za hB0).block mb hmw).trans hc⟩
 have HORO:Hid (ORow (W1.drewN nq) B vq l):=zk (za HM).orow (za hB0)
 have hs1:w.heap.size < (W1.drewN nq).heap.size:=World.block_lt_of_cell? (W1.drewN nq) ⟨w.heap.size,0 + 0,none⟩ (za hFF 0 _ rfl)
 clear y5 z3 hmin HR1 HF1 HB1
 generalize W1.drewN nq = W0 at hB0 hM hFF hT9 HROW HORO HBX hs1 ⊢
 have HM8:Hid (W0.cell? ⟨mb,8,none⟩ = some vt):=za hM 8 _ rfl
 have HM2:Hid (W0.cell? ⟨mb,2,none⟩ = some (.int .i64 t.id)):=za hM 2 _ rfl
 have HF0:Hid (W0.cell? ⟨w.heap.size,0,none⟩ = some (.int .i64 oid)):=za hFF 0 _ rfl
 have HF2:Hid (W0.cell? ⟨w.heap.size,2,none⟩ = some (.int .i64 oticks)):=za hFF 2 _ rfl
 have HF8:Hid (W0.frozen? ⟨mb,8,none⟩ = false):=by have:=(za hT9 8 (by omega)).2; rwa [Nat.zero_add] at this
 have hmw0:mb < W0.heap.size:=by omega
 have hBW0:B ≤ W0.heap.size:=by omega
 obtain ⟨i0,hi0,hz0,hz1,hz2⟩:=info_parts infoEv
 refine zo (RT (fun V=>Below W0.heap.size W0 V) (fun f=>{ tmps:=#[.pointer (some ⟨mb,0,none⟩),.agg #[.int .i64 oid,.int .i64 oside,.int .i64 oticks,.int .i64 oleft,.int .i64 olife,.string otag],undef,.pointer (some ⟨w.heap.size,0,none⟩),.int .i64 qty,.pointer (some ⟨mb,0,none⟩),.pointer (some ⟨mb,0,none⟩),.pointer (some ⟨mb,2,none⟩),.pointer (some ⟨mb,5,none⟩),.int .i64 t.left,.pointer (some ⟨w.heap.size,3,none⟩),.int .i64 oleft,.int .i64 qty,f 0,f 1,f 2,f 3,f 4,f 5,f 6,f 7,f 8,f 9,f 10,f 11,f 12,f 13,f 14,f 15,f 16,f 17,f 18,f 19,undef,undef,undef,undef,undef,undef,undef,undef,undef,undef,undef,undef,undef,undef,undef,undef,undef],defers:=[] }) 17 20 (DT mb w.heap.size B W0 vt ts t.id oid qty oticks)) (by kernel_rfl) ?_ ?_ ?_
 ·exact ⟨fun _=>undef,rfl,fun _=>⟨rfl,rfl,rfl,Nat.le_refl _,fun _ _=>rfl⟩,fun j hj=>by rw [List.getElem?_replicate] at hj; split at hj <;> simp at hj⟩
 ·rintro x A V ⟨f,rfl,-,hD⟩ hx hrd
  have hallx:=zab hrd hx (acyc _ (by kernel_rfl))
  have k17:x[17]? = some true:=hallx 17 (by simp)
  have k20:x[20]? = some true:=hallx 20 (by simp)
  obtain ⟨va,vc,-,-,-,hfin⟩:=hD 17 k17
  obtain ⟨q1,q2,q3⟩:=hfin k20
  have HFIN:Hid (_∧_∧_):=⟨q1,q2,q3⟩
  clear hD hallx hrd hx k17 k20 hfin q1 q2 q3
  dsimp only
  generalize f 17 = v17 at HFIN ⊢
  generalize f 0 = a0
  generalize f 1 = a1
  generalize f 2 = a2
  generalize f 3 = a3
  generalize f 4 = a4
  generalize f 5 = a5
  generalize f 6 = a6
  generalize f 7 = a7
  generalize f 8 = a8
  generalize f 9 = a9
  generalize f 10 = a10
  generalize f 11 = a11
  generalize f 12 = a12
  generalize f 13 = a13
  generalize f 14 = a14
  generalize f 15 = a15
  generalize f 16 = a16
  generalize f 18 = a18
  generalize f 19 = a19
  obtain ⟨q1,q2,q3⟩:=za HFIN
  have hvtB:∀ g,vt.ownBlock = some g→B ≤ g∧g < w.heap.size:=(za HM).erow.lt
  have z0:V.cell? ⟨w.heap.size,0,none⟩ = some (.int .i64 oid):=(World.cell?_of_block (a:=⟨w.heap.size,0,none⟩) (q3.block w.heap.size hs1 (by omega) (fun e=>by have:=hvtB _ e.symm; omega))).trans (za HF0)
  have y5:V.cell? ⟨mb,5,none⟩ = some (.int .i64 t.left):=(q3.cell 5 (by omega)).trans (za hM 5 _ rfl)
  have f5:V.frozen? ⟨mb,5,none⟩ = false:=(q3.frozen 5).trans (by have:=(za hT9 5 (by omega)).2; rwa [Nat.zero_add] at this)
  have hwr:IntKind.i64.wrap (t.left - qty) = t.left - qty:=by rw [IntKind.wrap_i64]; have:=za HQ; omega
  have hbxV:∃ cur,V.heap[mb]? = some (.cells cur 126 (0,0)):=by obtain ⟨cur,hc⟩:=za HBX; exact q3.kind _ _ _ hc
  have hn17:some mb ≠ v17.ownBlock:=zj q2 hbxV (by decide)
  have HBX2:Hid (∃ cur,(V.setCell ⟨mb,5,none⟩ (.int .i64 (t.left - qty))).drew.heap[mb]? = some (.cells cur 126 (0,0))):=by obtain ⟨cur,hc⟩:=hbxV; exact zN V mb 5 _ hc
  have hms2:mb < (V.setCell ⟨mb,5,none⟩ (.int .i64 (t.left - qty))).drew.heap.size:=by
   have:=q3.size
   show mb < (V.setCell ⟨mb,5,none⟩ (.int .i64 (t.left - qty))).heap.size
   simp [World.setCell]; omega
  have q4:ORow V B vq l:=zam (za HORO) q3 hnq (zB (za HORO) (za HROW) (by decide))
  have Z0:(V.setCell ⟨mb,5,none⟩ (.int .i64 (t.left - qty))).drew.cell? ⟨w.heap.size,0,none⟩ = some (.int .i64 oid):=(World.cell?_setCell_other _ _ _ _ (fun e=>by have:=congrArg Addr.block e; simp at this; omega)).trans z0
  have HO2:Hid (ORow (V.setCell ⟨mb,5,none⟩ (.int .i64 (t.left - qty))).drew B vq l):=zt q4 hnq 5 _
  have HE2:Hid (ERow (V.setCell ⟨mb,5,none⟩ (.int .i64 (t.left - qty))).drew B v17 (ts ++ [trE t.id oid qty oticks])):=zt q2 (zj q2 hbxV (by decide)) 5 _
  have HC5:Hid ((V.setCell ⟨mb,5,none⟩ (.int .i64 (t.left - qty))).drew.cell? ⟨mb,5,none⟩ = some (.int .i64 (t.left - qty))):=World.cell?_setCell_same _ _ _ y5
  have HCO:Hid (∀ j,j ≠ 5→(V.setCell ⟨mb,5,none⟩ (.int .i64 (t.left - qty))).drew.cell? ⟨mb,j,none⟩ = V.cell? ⟨mb,j,none⟩):=fun j hj=>World.cell?_setCell_other _ _ _ _ (zX (fun e=>hj e.symm))
  have HFR:Hid (∀ j,(V.setCell ⟨mb,5,none⟩ (.int .i64 (t.left - qty))).drew.frozen? ⟨mb,j,none⟩ = V.frozen? ⟨mb,j,none⟩):=fun j=>World.frozen?_setCell _ _ _ _
  have HK1:Hid (KeptBut mb B w (V.setCell ⟨mb,5,none⟩ (.int .i64 (t.left - qty))).drew):=kept_drew (zi (zi (zA (za hB0) (by omega)) (zaY q3 (by omega) (fun g hg=>(hvtB g hg).1))) (zbv V 5 _))
  have hs2:B ≤ (V.setCell ⟨mb,5,none⟩ (.int .i64 (t.left - qty))).drew.heap.size:=by
   have:=q3.size
   show B ≤ (V.setCell ⟨mb,5,none⟩ (.int .i64 (t.left - qty))).heap.size
   simp [World.setCell]; omega
  clear q2 q4 HFIN hbxV
  have Q1:=hide q1
  have Q3:=hide q3
  clear q1 q3 z0
  go_wp2_with fail
  generalize hV2:V.setCell ⟨mb,5,none⟩ (.int .i64 (t.left - qty)) = V2 at Z0 HO2 HE2 HC5 HCO HFR HK1 hs2 HBX2 hms2 ⊢
  clear hV2 y5 f5 hwr
  refine zbO 6 (by kernel_rfl) (by kernel_rfl) ?_
  simp only [List.take_succ_cons,List.take_zero,List.drop_succ_cons,List.drop_zero]
  repeat still_step
  refine wpStill_nil ?_
  go_wp2_with fail
  refine (takeFrom_any mb 0 B next oid qty vq l k ⟨oid,oside,oticks,oleft,olife,otag⟩ _ ((za HCO 0 (by omega)).trans (((za Q3).cell 0 (by omega)).trans (za hM 0 _ rfl))) ((za HCO 1 (by omega)).trans (((za Q3).cell 1 (by omega)).trans (za hM 1 _ rfl))) ((za HFR 1).trans (((za Q3).frozen 1).trans (by have:=(za hT9 1 (by omega)).2; rwa [Nat.zero_add] at this))) (za HO2) hnq hms2 hs2 hn (za HK) (za HC) (by have:=za HQ; omega) (by have:=za HQ; show qty ≤ oleft; omega) ho1).mono ?_
  rintro e w9 ⟨vq',rfl,hc1,ho9,ht9⟩
  have HC1:=hide hc1
  have HO9:=hide ho9
  have HT9:=hide ht9
  clear hc1 ho9 ht9
  go_wp2_with fail
  go_end0
  have hcell:∀ j,j ≠ 1→j ≠ 5→j ≠ 8→w9.cell? ⟨mb,j,none⟩ = W0.cell? ⟨mb,j,none⟩:=fun j h1 h5 h8=>((za HT9).cell j (by omega)).trans ((za HCO j h5).trans ((za Q3).cell j (by omega)))
  have hcells:w9.rangeAt mb 0 [.int .i64 next,vq',.int .i64 t.id,.int .i64 t.side,.int .i64 t.ticks,.int .i64 (t.left - qty),.int .i64 t.life,.string t.tag,v17]:=by
   intro j u hj
   rw [Nat.zero_add]
   match j,hj with
   | 0,hj=>cases hj; exact (hcell 0 (by omega) (by omega) (by omega)).trans (za hM 0 _ rfl)
   | 1,hj=>cases hj; exact za HC1
   | 2,hj=>cases hj; exact (hcell 2 (by omega) (by omega) (by omega)).trans (za hM 2 _ rfl)
   | 3,hj=>cases hj; exact (hcell 3 (by omega) (by omega) (by omega)).trans (za hM 3 _ rfl)
   | 4,hj=>cases hj; exact (hcell 4 (by omega) (by omega) (by omega)).trans (za hM 4 _ rfl)
   | 5,hj=>cases hj; exact ((za HT9).cell 5 (by omega)).trans (za HC5)
   | 6,hj=>cases hj; exact (hcell 6 (by omega) (by omega) (by omega)).trans (za hM 6 _ rfl)
   | 7,hj=>cases hj; exact (hcell 7 (by omega) (by omega) (by omega)).trans (za hM 7 _ rfl)
   | 8,hj=>cases hj; exact ((za HT9).cell 8 (by omega)).trans ((za HCO 8 (by omega)).trans (za Q1))
   | j + 9,hj=>simp at hj
  refine ⟨vq',v17,rfl,⟨hcells,fun j hj=>⟨?_,?_⟩,za HO9,zam (za HE2) (za HT9) hn17 (zB (za HE2) (za HO2) (by decide)),by obtain ⟨cur,hc⟩:=za HBX2; exact (za HT9).kind _ _ _ hc,Nat.le_trans hs2 (za HT9).size⟩,zi (za HK1) (zaY (za HT9) hs2 (fun g hg=>((za HO2).lt g hg).1))⟩
  ·match j,hj with
   | 0,_=>exact Option.isSome_iff_exists.2 ⟨_,hcells 0 _ rfl⟩
   | 1,_=>exact Option.isSome_iff_exists.2 ⟨_,hcells 1 _ rfl⟩
   | 2,_=>exact Option.isSome_iff_exists.2 ⟨_,hcells 2 _ rfl⟩
   | 3,_=>exact Option.isSome_iff_exists.2 ⟨_,hcells 3 _ rfl⟩
   | 4,_=>exact Option.isSome_iff_exists.2 ⟨_,hcells 4 _ rfl⟩
   | 5,_=>exact Option.isSome_iff_exists.2 ⟨_,hcells 5 _ rfl⟩
   | 6,_=>exact Option.isSome_iff_exists.2 ⟨_,hcells 6 _ rfl⟩
   | 7,_=>exact Option.isSome_iff_exists.2 ⟨_,hcells 7 _ rfl⟩
   | 8,_=>exact Option.isSome_iff_exists.2 ⟨_,hcells 8 _ rfl⟩
   | j + 9,h=>omega
  ·have:=(za hT9 j hj).2
   rw [Nat.zero_add] at this ⊢
   exact ((za HT9).frozen j).trans ((za HFR j).trans (((za Q3).frozen j).trans this))
 ·rintro x A V i op ⟨f,rfl,hbs,hD⟩ hcl hx ho hxi hall
  have HBS:=hide hbs
  have HD:=hide hD
  have n17':i < 17→0 < i→¬ x[17]? = some true:=fun hlt hpos h17=>by
   have h16:=hcl 17 _ rfl h17 ⟨16,.data⟩ (by simp) rfl
   have h4:=hcl 17 _ rfl h17 ⟨4,.data⟩ (by simp) rfl
   have h15:=hcl 16 _ rfl h16 ⟨15,.data⟩ (by simp) rfl
   have h9:=hcl 15 _ rfl h15 ⟨9,.data⟩ (by simp) rfl
   have h11:=hcl 15 _ rfl h15 ⟨11,.data⟩ (by simp) rfl
   have h12:=hcl 15 _ rfl h15 ⟨12,.data⟩ (by simp) rfl
   have h14:=hcl 15 _ rfl h15 ⟨14,.data⟩ (by simp) rfl
   have h8:=hcl 9 _ rfl h9 ⟨8,.data⟩ (by simp) rfl
   have h7:=hcl 8 _ rfl h8 ⟨7,.data⟩ (by simp) rfl
   have h6:=hcl 7 _ rfl h7 ⟨6,.data⟩ (by simp) rfl
   have h5:=hcl 6 _ rfl h6 ⟨5,.data⟩ (by simp) rfl
   have h10:=hcl 11 _ rfl h11 ⟨10,.data⟩ (by simp) rfl
   have h13:=hcl 14 _ rfl h14 ⟨13,.data⟩ (by simp) rfl
   have h3:=hcl 4 _ rfl h4 ⟨3,.data⟩ (by simp) rfl
   have h2:=hcl 3 _ rfl h3 ⟨2,.data⟩ (by simp) rfl
   have h1:=hcl 2 _ rfl h2 ⟨1,.data⟩ (by simp) rfl
   have hallk:∀ j,0 < j→j < 17→x[j]? = some true:=fun j hj0 hj=>by
    rcases (by omega:j = 1 ∨ j = 2 ∨ j = 3 ∨ j = 4 ∨ j = 5 ∨ j = 6 ∨ j = 7 ∨ j = 8 ∨ j = 9 ∨ j = 10 ∨ j = 11 ∨ j = 12 ∨ j = 13 ∨ j = 14 ∨ j = 15 ∨ j = 16) with rfl | rfl | rfl | rfl | rfl | rfl | rfl | rfl | rfl | rfl | rfl | rfl | rfl | rfl | rfl | rfl <;> assumption
   rw [hallk i hpos hlt] at hxi; cases hxi
  have n20':i < 20→¬ x[20]? = some true:=fun hlt h20=>by
   have h19:=hcl 20 _ rfl h20 ⟨19,.data⟩ (by simp) rfl
   have h17:=hcl 20 _ rfl h20 ⟨17,.data⟩ (by simp) rfl
   have h18:=hcl 19 _ rfl h19 ⟨18,.data⟩ (by simp) rfl
   have h16:=hcl 17 _ rfl h17 ⟨16,.data⟩ (by simp) rfl
   have h4:=hcl 17 _ rfl h17 ⟨4,.data⟩ (by simp) rfl
   have h15:=hcl 16 _ rfl h16 ⟨15,.data⟩ (by simp) rfl
   have h9:=hcl 15 _ rfl h15 ⟨9,.data⟩ (by simp) rfl
   have h11:=hcl 15 _ rfl h15 ⟨11,.data⟩ (by simp) rfl
   have h12:=hcl 15 _ rfl h15 ⟨12,.data⟩ (by simp) rfl
   have h14:=hcl 15 _ rfl h15 ⟨14,.data⟩ (by simp) rfl
   have h8:=hcl 9 _ rfl h9 ⟨8,.data⟩ (by simp) rfl
   have h7:=hcl 8 _ rfl h8 ⟨7,.data⟩ (by simp) rfl
   have h6:=hcl 7 _ rfl h7 ⟨6,.data⟩ (by simp) rfl
   have h5:=hcl 6 _ rfl h6 ⟨5,.data⟩ (by simp) rfl
   have h10:=hcl 11 _ rfl h11 ⟨10,.data⟩ (by simp) rfl
   have h13:=hcl 14 _ rfl h14 ⟨13,.data⟩ (by simp) rfl
   have h3:=hcl 4 _ rfl h4 ⟨3,.data⟩ (by simp) rfl
   have h2:=hcl 3 _ rfl h3 ⟨2,.data⟩ (by simp) rfl
   have h1:=hcl 2 _ rfl h2 ⟨1,.data⟩ (by simp) rfl
   have h0:=hcl 18 _ rfl h18 ⟨0,.data⟩ (by simp) rfl
   have hallk:∀ j,j < 20→x[j]? = some true:=fun j hj=>by
    rcases (by omega:j = 0 ∨ j = 1 ∨ j = 2 ∨ j = 3 ∨ j = 4 ∨ j = 5 ∨ j = 6 ∨ j = 7 ∨ j = 8 ∨ j = 9 ∨ j = 10 ∨ j = 11 ∨ j = 12 ∨ j = 13 ∨ j = 14 ∨ j = 15 ∨ j = 16 ∨ j = 17 ∨ j = 18 ∨ j = 19) with rfl | rfl | rfl | rfl | rfl | rfl | rfl | rfl | rfl | rfl | rfl | rfl | rfl | rfl | rfl | rfl | rfl | rfl | rfl | rfl <;> assumption
   rw [hallk i hlt] at hxi; cases hxi
  have cellV:∀ (b o:Nat) (u:Value),W0.cell? ⟨b,o,none⟩ = some u→¬ x[17]? = some true→V.cell? ⟨b,o,none⟩ = some u:=fun b o u hu hn17=>((hbs hn17).cell (p:=⟨b,o,none⟩) (World.block_lt_of_cell? W0 _ hu)).trans hu
  clear hbs hcl
  match i,ho with
  | 0,ho =>
   obtain rfl:=Option.some.inj ho
   clear hall hD
   rw [if_pos (by rfl)]
   unfold Oper.wp
   go_simp
   exact ⟨upd f 0 (.pointer (some ⟨mb,0,none⟩)),by simp [upd],zF (za HD) (by decide) (by decide) (fun _ _ h=>h) (za HBS) rfl⟩
  | 1,ho =>
   obtain rfl:=Option.some.inj ho
   clear hall hD
   rw [if_pos (by rfl)]
   unfold Oper.wp
   go_simp
   exact ⟨upd f 1 (.pointer (some ⟨mb,0,none⟩)),by simp [upd],zF (za HD) (by decide) (by decide) (fun _ _ h=>h) (za HBS) rfl⟩
  | 2,ho =>
   obtain rfl:=Option.some.inj ho
   have g:f 1 = .pointer (some ⟨mb,0,none⟩):=hD 1 (hall ⟨1,.data⟩ (by simp) rfl)
   clear hall hD
   rw [if_pos (by rfl)]
   unfold Oper.wp
   go_simp
   exact ⟨upd f 2 (.pointer (some ⟨mb,0,none⟩)),by simp [upd,g],zF (za HD) (by decide) (by decide) (fun _ _ h=>h) (za HBS) rfl⟩
  | 3,ho =>
   obtain rfl:=Option.some.inj ho
   have g:f 2 = .pointer (some ⟨mb,0,none⟩):=hD 2 (hall ⟨2,.data⟩ (by simp) rfl)
   clear hall hD
   rw [if_pos (by rfl)]
   unfold Oper.wp
   go_simp
   exact ⟨upd f 3 (.pointer (some ⟨mb,8,none⟩)),by simp [upd,g],zF (za HD) (by decide) (by decide) (fun _ _ h=>h) (za HBS) rfl⟩
  | 4,ho =>
   obtain rfl:=Option.some.inj ho
   have g:f 3 = .pointer (some ⟨mb,8,none⟩):=hD 3 (hall ⟨3,.data⟩ (by simp) rfl)
   have n17:=n17' (by omega) (by omega)
   have y8:=cellV mb 8 _ (za HM8) n17
   clear hall hD
   rw [if_pos (by rfl)]
   unfold Oper.wp
   go_simp
   exact ⟨upd f 4 (vt),by simp [upd,g],zF (za HD) (by decide) (by decide) (fun _ _ h=>h) (za HBS) rfl⟩
  | 5,ho =>
   obtain rfl:=Option.some.inj ho
   clear hall hD
   rw [if_pos (by rfl)]
   unfold Oper.wp
   go_simp
   exact ⟨upd f 5 (.pointer (some ⟨mb,0,none⟩)),by simp [upd],zF (za HD) (by decide) (by decide) (fun _ _ h=>h) (za HBS) rfl⟩
  | 6,ho =>
   obtain rfl:=Option.some.inj ho
   have g:f 5 = .pointer (some ⟨mb,0,none⟩):=hD 5 (hall ⟨5,.data⟩ (by simp) rfl)
   clear hall hD
   rw [if_pos (by rfl)]
   unfold Oper.wp
   go_simp
   exact ⟨upd f 6 (.pointer (some ⟨mb,0,none⟩)),by simp [upd,g],zF (za HD) (by decide) (by decide) (fun _ _ h=>h) (za HBS) rfl⟩
  | 7,ho =>
   obtain rfl:=Option.some.inj ho
   have g:f 6 = .pointer (some ⟨mb,0,none⟩):=hD 6 (hall ⟨6,.data⟩ (by simp) rfl)
   clear hall hD
   rw [if_pos (by rfl)]
   unfold Oper.wp
   go_simp
   exact ⟨upd f 7 (.pointer (some ⟨mb,2,none⟩)),by simp [upd,g],zF (za HD) (by decide) (by decide) (fun _ _ h=>h) (za HBS) rfl⟩
  | 8,ho =>
   obtain rfl:=Option.some.inj ho
   have g:f 7 = .pointer (some ⟨mb,2,none⟩):=hD 7 (hall ⟨7,.data⟩ (by simp) rfl)
   clear hall hD
   rw [if_pos (by rfl)]
   unfold Oper.wp
   go_simp
   exact ⟨upd f 8 (.pointer (some ⟨mb,2,none⟩)),by simp [upd,g],zF (za HD) (by decide) (by decide) (fun _ _ h=>h) (za HBS) rfl⟩
  | 9,ho =>
   obtain rfl:=Option.some.inj ho
   have g:f 8 = .pointer (some ⟨mb,2,none⟩):=hD 8 (hall ⟨8,.data⟩ (by simp) rfl)
   have n17:=n17' (by omega) (by omega)
   have y2:=cellV mb 2 _ (za HM2) n17
   clear hall hD
   rw [if_pos (by rfl)]
   unfold Oper.wp
   go_simp
   exact ⟨upd f 9 (.int .i64 t.id),by simp [upd,g],zF (za HD) (by decide) (by decide) (fun _ _ h=>h) (za HBS) rfl⟩
  | 10,ho =>
   obtain rfl:=Option.some.inj ho
   clear hall hD
   rw [if_pos (by rfl)]
   unfold Oper.wp
   go_simp
   exact ⟨upd f 10 (.pointer (some ⟨w.heap.size,0,none⟩)),by simp [upd],zF (za HD) (by decide) (by decide) (fun _ _ h=>h) (za HBS) rfl⟩
  | 11,ho =>
   obtain rfl:=Option.some.inj ho
   have g:f 10 = .pointer (some ⟨w.heap.size,0,none⟩):=hD 10 (hall ⟨10,.data⟩ (by simp) rfl)
   have n17:=n17' (by omega) (by omega)
   have z0:=cellV w.heap.size 0 _ (za HF0) n17
   clear hall hD
   rw [if_pos (by rfl)]
   unfold Oper.wp
   go_simp
   exact ⟨upd f 11 (.int .i64 oid),by simp [upd,g],zF (za HD) (by decide) (by decide) (fun _ _ h=>h) (za HBS) rfl⟩
  | 12,ho =>
   obtain rfl:=Option.some.inj ho
   clear hall hD
   rw [if_pos (by rfl)]
   unfold Oper.wp
   go_simp
   exact ⟨upd f 12 (.int .i64 qty),by simp [upd],zF (za HD) (by decide) (by decide) (fun _ _ h=>h) (za HBS) rfl⟩
  | 13,ho =>
   obtain rfl:=Option.some.inj ho
   clear hall hD
   rw [if_pos (by rfl)]
   unfold Oper.wp
   go_simp
   exact ⟨upd f 13 (.pointer (some ⟨w.heap.size,2,none⟩)),by simp [upd],zF (za HD) (by decide) (by decide) (fun _ _ h=>h) (za HBS) rfl⟩
  | 14,ho =>
   obtain rfl:=Option.some.inj ho
   have g:f 13 = .pointer (some ⟨w.heap.size,2,none⟩):=hD 13 (hall ⟨13,.data⟩ (by simp) rfl)
   have n17:=n17' (by omega) (by omega)
   have z2:=cellV w.heap.size 2 _ (za HF2) n17
   clear hall hD
   rw [if_pos (by rfl)]
   unfold Oper.wp
   go_simp
   exact ⟨upd f 14 (.int .i64 oticks),by simp [upd,g],zF (za HD) (by decide) (by decide) (fun _ _ h=>h) (za HBS) rfl⟩
  | 15,ho =>
   obtain rfl:=Option.some.inj ho
   have g9:f 9 = .int .i64 t.id:=hD 9 (hall ⟨9,.data⟩ (by simp) rfl)
   have g11:f 11 = .int .i64 oid:=hD 11 (hall ⟨11,.data⟩ (by simp) rfl)
   have g12:f 12 = .int .i64 qty:=hD 12 (hall ⟨12,.data⟩ (by simp) rfl)
   have g14:f 14 = .int .i64 oticks:=hD 14 (hall ⟨14,.data⟩ (by simp) rfl)
   clear hall hD
   rw [if_pos (by rfl)]
   unfold Oper.wp
   go_simp
   exact ⟨upd f 15 (evV (trE t.id oid qty oticks)),by simp [upd,g9,g11,g12,g14,evV,trE,zCm],zF (za HD) (by decide) (by decide) (fun _ _ h=>h) (za HBS) rfl⟩
  | 16,ho =>
   obtain rfl:=Option.some.inj ho
   have g:f 15 = evV (trE t.id oid qty oticks):=hD 15 (hall ⟨15,.data⟩ (by simp) rfl)
   have n17:=n17' (by omega) (by omega)
   have hbV:=za HBS n17
   clear hall hD
   unfold evV trE at g
   rw [if_pos (by rfl)]
   unfold Oper.wp
   go_simp
   refine ⟨upd f 16 (.slice (some ⟨V.heap.size,0,none⟩) 1 1),by simp [upd,g],zF (za HD) (by decide) (by decide) (dt_alloc n17) (fun _=>hbV.alloc hbV.size _) ⟨V.heap.size,rfl,fun _=>?_⟩⟩
   exact cellsT V (trE t.id oid qty oticks) 43
  | 17,ho =>
   obtain rfl:=Option.some.inj ho
   have g4:f 4 = vt:=hD 4 (hall ⟨4,.data⟩ (by simp) rfl)
   obtain ⟨s,g16,hcs⟩:=hD 16 (hall ⟨16,.data⟩ (by simp) rfl)
   have n17:¬ x[17]? = some true:=by rw [hxi]; simp
   have n20:=n20' (by omega)
   have hbV:=za HBS n17
   have hrow:ERow V B vt ts:=zI (za HROW) hbV
   rw [if_pos (by rfl)]
   refine wp_append_own V (.tmp 17) (.tmp 29) 36 rfl B 43 i0 _ 14 120 Tryz.underlying36 hi0 hz0 hz1 hz2 rfl (by decide) vt ts.length (ts.flatMap Ev.vs) g4 hrow ⟨s,0,none⟩ 1 1 (trE t.id oid qty oticks).vs g16 rfl (hcs n17) (one_ev _) (by unfold maxLen; omega) (by omega) (by have:=hbV.size; omega) ?_
   intro v' w' hown hgr _
   obtain ⟨ga,gc,rfl⟩:=zce hown (by omega)
   refine ⟨upd f 17 (.slice (some ⟨ga,0,none⟩) (ts.length + 1) gc),rfl,rt_one (by decide) (za HD) hxi n20 (fun j v hj h=>dt_one j v hj h) ⟨some ⟨ga,0,none⟩,gc,rfl,trivial,fun _=>⟨?_,?_⟩,fun h=>h.elim⟩⟩
   ·show World.ownsRow _ _ _ _ _ (ts ++ [trE t.id oid qty oticks]).length _
    rw [List.length_append,List.flatMap_append]; simpa using hown
   ·exact (zaa hbV (Nat.le_refl _)).trans hgr
  | 18,ho =>
   obtain rfl:=Option.some.inj ho
   have g:f 0 = .pointer (some ⟨mb,0,none⟩):=hD 0 (hall ⟨0,.data⟩ (by simp) rfl)
   clear hall hD
   rw [if_pos (by rfl)]
   unfold Oper.wp
   go_simp
   exact ⟨upd f 18 (.pointer (some ⟨mb,0,none⟩)),by simp [upd,g],zF (za HD) (by decide) (by decide) (fun _ _ h=>h) (za HBS) rfl⟩
  | 19,ho =>
   obtain rfl:=Option.some.inj ho
   have g:f 18 = .pointer (some ⟨mb,0,none⟩):=hD 18 (hall ⟨18,.data⟩ (by simp) rfl)
   clear hall hD
   rw [if_pos (by rfl)]
   unfold Oper.wp
   go_simp
   exact ⟨upd f 19 (.pointer (some ⟨mb,8,none⟩)),by simp [upd,g],zF (za HD) (by decide) (by decide) (fun _ _ h=>h) (za HBS) rfl⟩
  | 20,ho =>
   obtain rfl:=Option.some.inj ho
   have g19:f 19 = .pointer (some ⟨mb,8,none⟩):=hD 19 (hall ⟨19,.data⟩ (by simp) rfl)
   have k17:x[17]? = some true:=hall ⟨17,.data⟩ (by simp) rfl
   have n20:¬ x[20]? = some true:=by rw [hxi]; simp
   obtain ⟨ga,gc,g17,-,hfa,-⟩:=hD 17 k17
   obtain ⟨her,hgr⟩:=hfa n20
   have hmbV:some mb ≠ vt.ownBlock:=hnt
   have y8:=hgr.cell (za HM8) hmbV
   have f8:V.frozen? ⟨mb,8,none⟩ = false:=(World.frozen?_of_block (a:=⟨mb,8,none⟩) (hgr.block mb (by omega) hmbV)).trans (za HF8)
   have HER:=hide (g17 ▸ her)
   have HBXV:Hid (∃ cur,V.heap[mb]? = some (.cells cur 126 (0,0))):=by obtain ⟨cur,hc⟩:=za HBX; exact ⟨cur,(hgr.block mb (by omega) hmbV).trans hc⟩
   have HGR:=hide hgr
   clear hall hD her hgr hfa
   rw [if_pos (by rfl)]
   unfold Oper.wp
   go_simp
   refine ⟨upd f 20 undef,by simp [upd,g19,g17],rt_two (by decide) (za HD) k17 hxi (fun j hj hxj h=>dt_two j hj h (fun hj17=>?_)) trivial⟩
   subst hj17
   obtain ⟨-,-,-,-,-,-⟩:=h
   refine ⟨ga,gc,g17,trivial,fun h=>absurd trivial h,fun _=>?_⟩
   rw [g17]
   refine ⟨World.cell?_setCell_same _ _ _ y8,zt (za HER) (zj (za HER) (za HBXV) (by decide)) 8 _,?_⟩
   exact zas (zaj (za HGR) (by omega) hmbV) (zbK (o:=7) _ _)
  | i + 21,ho=>simp at ho
end Go.Proofs.YtopjoogdpjaocaaGreat
