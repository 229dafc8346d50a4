/-
  RunScript by the model: proved by walking the function.
-/
import Derived.Test.YtdfihaabhichdaaGreatRj04
import Derived.Test.YtdfihaabhichdaaGreatRj31
import Derived.Test.YtdfihaabhichdaaGreatRj32
import Derived.Test.YtdfihaabhichdaaGreatRj48
import Derived.Laws.Cover2
import Derived.Deep.RegionWith
import Derived.Deep.Slices
import Derived.ChangeArms
import Derived.OpenShut
namespace Go.Proofs.YtdfihaabhichdaaGreat
open Go.RowKit
set_option linter.unusedVariables false

set_option maxRecDepth 100000 in
set_option maxHeartbeats 1600000 in
theorem specRunScript_any (v:Value) (cs:List Cm) (w:World) (hr:RdR Cm.vs 8 w v cs) (htg:∀ c ∈ cs,c.g.size ≤ maxLen) :
  Calls Tryz.prog 19 #[v] w fun e w'=>∃ gv vq,e = .returned (.tuple #[.agg #[gv,.int .i64 (rsF cs).n,vq,.int .i64 (rsF cs).t.gr,.int .i64 (rsF cs).t.ac,.int .i64 (rsF cs).t.rf,.int .i64 (rsF cs).t.tr,.int .i64 (rsF cs).t.vo,.int .i64 (rsF cs).t.no,.int .i64 (rsF cs).t.li,.int .i64 (rsF cs).t.le],.int .i64 (cntF cs.length)])∧GRs w' w.heap.size gv (rsF cs).g∧ORow w' w.heap.size vq (rsF cs).l∧Below w.heap.size w w':=by
 have HR:=hide hr
 have HTG:=hide htg
 obtain ⟨a,cap,rfl,hlen,hc⟩:=hr
 clear hc htg
 have hsf:=sfl
 have HF:Hid (rsF cs = if cs.length ≤ 200 then { runS cs with t:=wbT (runS cs).t (runS cs).l } else ⟨0,[],[],tot0⟩):=rfl
 have HCF:=hide (cntF.eq_1 cs.length)
 have HRU:=hide (fun (h:cs.length ≤ 200) (W:World) hW=>l04Run_any (.slice a cs.length cap) cs W hW (za HTG) h)
 generalize rsF cs = F at HF HRU ⊢
 generalize cntF cs.length = CF at HCF ⊢
 have hbX:Below w.heap.size w (w.alloc (Obj.cells #[.slice none 0 0,.int .i64 0,.slice none 0 0,.int .i64 0,.int .i64 0,.int .i64 0,.int .i64 0,.int .i64 0,.int .i64 0,.int .i64 0,.int .i64 0] 50)):=(Below.refl _ _).alloc (Nat.le_refl _) _
 have HX:Hid ((w.alloc (Obj.cells #[.slice none 0 0,.int .i64 0,.slice none 0 0,.int .i64 0,.int .i64 0,.int .i64 0,.int .i64 0,.int .i64 0,.int .i64 0,.int .i64 0,.int .i64 0] 50)).heap.size = w.heap.size + 1∧World.there (w.alloc (Obj.cells #[.slice none 0 0,.int .i64 0,.slice none 0 0,.int .i64 0,.int .i64 0,.int .i64 0,.int .i64 0,.int .i64 0,.int .i64 0,.int .i64 0,.int .i64 0] 50)) w.heap.size 0 11∧Below w.heap.size w (w.alloc (Obj.cells #[.slice none 0 0,.int .i64 0,.slice none 0 0,.int .i64 0,.int .i64 0,.int .i64 0,.int .i64 0,.int .i64 0,.int .i64 0,.int .i64 0,.int .i64 0] 50))):=⟨zf _ _,zw w [.slice none 0 0,.int .i64 0,.slice none 0 0,.int .i64 0,.int .i64 0,.int .i64 0,.int .i64 0,.int .i64 0,.int .i64 0,.int .i64 0,.int .i64 0] 50,hbX⟩
 clear hbX
 go_enter Tryz.func19,Tryz.ntmps19
 refine wp_seq_k fun K hK=>?_
 have HK1:=hide hK
 clear hK
 go_wp2_with fail
 refine za HK1 _ _ ?_
 clear HK1
 generalize (w.alloc (Obj.cells #[.slice none 0 0,.int .i64 0,.slice none 0 0,.int .i64 0,.int .i64 0,.int .i64 0,.int .i64 0,.int .i64 0,.int .i64 0,.int .i64 0,.int .i64 0] 50)) = X at HX ⊢
 obtain ⟨y0,z0,q0⟩:=zc (za HX).2.1 (j:=0) (by omega)
 obtain ⟨y1,z1,q1⟩:=zc (za HX).2.1 (j:=1) (by omega)
 obtain ⟨y2,z2,q2⟩:=zc (za HX).2.1 (j:=2) (by omega)
 obtain ⟨y3,z3,q3⟩:=zc (za HX).2.1 (j:=3) (by omega)
 obtain ⟨y4,z4,q4⟩:=zc (za HX).2.1 (j:=4) (by omega)
 obtain ⟨y5,z5,q5⟩:=zc (za HX).2.1 (j:=5) (by omega)
 obtain ⟨y6,z6,q6⟩:=zc (za HX).2.1 (j:=6) (by omega)
 obtain ⟨y7,z7,q7⟩:=zc (za HX).2.1 (j:=7) (by omega)
 obtain ⟨y8,z8,q8⟩:=zc (za HX).2.1 (j:=8) (by omega)
 obtain ⟨y9,z9,q9⟩:=zc (za HX).2.1 (j:=9) (by omega)
 obtain ⟨y10,z10,q10⟩:=zc (za HX).2.1 (j:=10) (by omega)
 by_cases h1:4096 < cs.length
 ·have HF1:Hid (F = ⟨0,[],[],tot0⟩):=(za HF).trans (if_neg (by omega))
  have HCD:Hid (CF = 2):=(za HCF).trans (if_pos h1)
  have h1':(4096:Int) < cs.length:=by omega
  have HR8:=hide (World.rangeAt_setCells_same X w.heap.size 0 [.slice none 0 0,.int .i64 0,.slice none 0 0,.int .i64 0,.int .i64 0,.int .i64 0,.int .i64 0,.int .i64 0,.int .i64 0,.int .i64 0,.int .i64 0] (fun j hj=>(za HX).2.1 j hj))
  have HB8:=hide (zn w.heap.size (Nat.le_refl _) [.slice none 0 0,.int .i64 0,.slice none 0 0,.int .i64 0,.int .i64 0,.int .i64 0,.int .i64 0,.int .i64 0,.int .i64 0,.int .i64 0,.int .i64 0] 0 X (za HX).2.2)
  clear HF HCF HRU
  go_wp2_with fail
  change bodyPost _ _ _ _ _ (X.setCells w.heap.size 0 [.slice none 0 0,.int .i64 0,.slice none 0 0,.int .i64 0,.int .i64 0,.int .i64 0,.int .i64 0,.int .i64 0,.int .i64 0,.int .i64 0,.int .i64 0])
  generalize X.setCells w.heap.size 0 [.slice none 0 0,.int .i64 0,.slice none 0 0,.int .i64 0,.int .i64 0,.int .i64 0,.int .i64 0,.int .i64 0,.int .i64 0,.int .i64 0,.int .i64 0] = WE at HR8 HB8 ⊢
  obtain rfl:=za HF1
  have d0:WE.cell? ⟨w.heap.size,0,none⟩ = some (.slice none 0 0):=za HR8 0 _ rfl
  have d1:WE.cell? ⟨w.heap.size,1,none⟩ = some (.int .i64 0):=za HR8 1 _ rfl
  have d2:WE.cell? ⟨w.heap.size,2,none⟩ = some (.slice none 0 0):=za HR8 2 _ rfl
  have d3:WE.cell? ⟨w.heap.size,3,none⟩ = some (.int .i64 0):=za HR8 3 _ rfl
  have d4:WE.cell? ⟨w.heap.size,4,none⟩ = some (.int .i64 0):=za HR8 4 _ rfl
  have d5:WE.cell? ⟨w.heap.size,5,none⟩ = some (.int .i64 0):=za HR8 5 _ rfl
  have d6:WE.cell? ⟨w.heap.size,6,none⟩ = some (.int .i64 0):=za HR8 6 _ rfl
  have d7:WE.cell? ⟨w.heap.size,7,none⟩ = some (.int .i64 0):=za HR8 7 _ rfl
  have d8:WE.cell? ⟨w.heap.size,8,none⟩ = some (.int .i64 0):=za HR8 8 _ rfl
  have d9:WE.cell? ⟨w.heap.size,9,none⟩ = some (.int .i64 0):=za HR8 9 _ rfl
  have d10:WE.cell? ⟨w.heap.size,10,none⟩ = some (.int .i64 0):=za HR8 10 _ rfl
  refine bodyPost_ret (by simp [results,Tryz.results19,go_sem,d0,d1,d2,d3,d4,d5,d6,d7,d8,d9,d10]; try rfl) rfl ?_
  rw [za HCD]
  exact ⟨_,_,rfl,⟨[],World.ownsRow_nil _ _ _ _,rfl,fun i g es hg=>by simp at hg⟩,World.ownsRow_nil _ _ _ _,za HB8⟩
 have h1':¬ (4096:Int) < cs.length:=by omega
 by_cases h2:200 < cs.length
 ·have HF1:Hid (F = ⟨0,[],[],tot0⟩):=(za HF).trans (if_neg (by omega))
  have HCD:Hid (CF = 7):=(za HCF).trans ((if_neg h1).trans (if_pos h2))
  have h2':(200:Int) < cs.length:=by omega
  have HR8:=hide (World.rangeAt_setCells_same X w.heap.size 0 [.slice none 0 0,.int .i64 0,.slice none 0 0,.int .i64 0,.int .i64 0,.int .i64 0,.int .i64 0,.int .i64 0,.int .i64 0,.int .i64 0,.int .i64 0] (fun j hj=>(za HX).2.1 j hj))
  have HB8:=hide (zn w.heap.size (Nat.le_refl _) [.slice none 0 0,.int .i64 0,.slice none 0 0,.int .i64 0,.int .i64 0,.int .i64 0,.int .i64 0,.int .i64 0,.int .i64 0,.int .i64 0,.int .i64 0] 0 X (za HX).2.2)
  clear HF HCF HRU
  go_wp2_with fail
  change bodyPost _ _ _ _ _ (X.setCells w.heap.size 0 [.slice none 0 0,.int .i64 0,.slice none 0 0,.int .i64 0,.int .i64 0,.int .i64 0,.int .i64 0,.int .i64 0,.int .i64 0,.int .i64 0,.int .i64 0])
  generalize X.setCells w.heap.size 0 [.slice none 0 0,.int .i64 0,.slice none 0 0,.int .i64 0,.int .i64 0,.int .i64 0,.int .i64 0,.int .i64 0,.int .i64 0,.int .i64 0,.int .i64 0] = WE at HR8 HB8 ⊢
  obtain rfl:=za HF1
  have d0:WE.cell? ⟨w.heap.size,0,none⟩ = some (.slice none 0 0):=za HR8 0 _ rfl
  have d1:WE.cell? ⟨w.heap.size,1,none⟩ = some (.int .i64 0):=za HR8 1 _ rfl
  have d2:WE.cell? ⟨w.heap.size,2,none⟩ = some (.slice none 0 0):=za HR8 2 _ rfl
  have d3:WE.cell? ⟨w.heap.size,3,none⟩ = some (.int .i64 0):=za HR8 3 _ rfl
  have d4:WE.cell? ⟨w.heap.size,4,none⟩ = some (.int .i64 0):=za HR8 4 _ rfl
  have d5:WE.cell? ⟨w.heap.size,5,none⟩ = some (.int .i64 0):=za HR8 5 _ rfl
  have d6:WE.cell? ⟨w.heap.size,6,none⟩ = some (.int .i64 0):=za HR8 6 _ rfl
  have d7:WE.cell? ⟨w.heap.size,7,none⟩ = some (.int .i64 0):=za HR8 7 _ rfl
  have d8:WE.cell? ⟨w.heap.size,8,none⟩ = some (.int .i64 0):=za HR8 8 _ rfl
  have d9:WE.cell? ⟨w.heap.size,9,none⟩ = some (.int .i64 0):=za HR8 9 _ rfl
  have d10:WE.cell? ⟨w.heap.size,10,none⟩ = some (.int .i64 0):=za HR8 10 _ rfl
  refine bodyPost_ret (by simp [results,Tryz.results19,go_sem,d0,d1,d2,d3,d4,d5,d6,d7,d8,d9,d10]; try rfl) rfl ?_
  rw [za HCD]
  exact ⟨_,_,rfl,⟨[],World.ownsRow_nil _ _ _ _,rfl,fun i g es hg=>by simp at hg⟩,World.ownsRow_nil _ _ _ _,za HB8⟩
 have h2':¬ (200:Int) < cs.length:=by omega
 have HCD:Hid (CF = 0):=(za HCF).trans ((if_neg h1).trans (if_neg h2))
 have HRU1:=hide (za HRU (by omega) X (zi (za HR) (za HX).2.2 (Nat.le_refl _)))
 clear HRU HF HCF z0 q0 z1 q1 z2 q2 z3 q3 z4 q4 z5 q5 z6 q6 z7 q7 z8 q8 z9 q9 z10 q10
 obtain ⟨fn,fl,fg,⟨tgr,tac,trf,ttr,tvo,tno,tli,tle⟩⟩:=F
 simp only at HRU1 ⊢
 go_wp2_with fail
 refine (za HRU1).mono ?_
 rintro e w4 ⟨gv,vq,rfl,⟨gs,hg,hgl,hge⟩,hq,hb4⟩
 obtain ⟨aq,cq,hv⟩:=zU hq
 subst hv
 obtain ⟨ga,gc,hgv⟩:=zU hg
 subst hgv
 have hxs:=(za HX).1
 have HT4:=hide (zd (za HX).2.1 hb4 (by omega))
 have HB4:=hide ((za HX).2.2.trans (hb4.mono (za HX).2.2.size))
 obtain ⟨y0,z0,q0⟩:=zc (za HT4) (j:=0) (by omega)
 obtain ⟨y1,z1,q1⟩:=zc (za HT4) (j:=1) (by omega)
 obtain ⟨y2,z2,q2⟩:=zc (za HT4) (j:=2) (by omega)
 obtain ⟨y3,z3,q3⟩:=zc (za HT4) (j:=3) (by omega)
 obtain ⟨y4,z4,q4⟩:=zc (za HT4) (j:=4) (by omega)
 obtain ⟨y5,z5,q5⟩:=zc (za HT4) (j:=5) (by omega)
 obtain ⟨y6,z6,q6⟩:=zc (za HT4) (j:=6) (by omega)
 obtain ⟨y7,z7,q7⟩:=zc (za HT4) (j:=7) (by omega)
 obtain ⟨y8,z8,q8⟩:=zc (za HT4) (j:=8) (by omega)
 obtain ⟨y9,z9,q9⟩:=zc (za HT4) (j:=9) (by omega)
 obtain ⟨y10,z10,q10⟩:=zc (za HT4) (j:=10) (by omega)
 have HR8:=hide (World.rangeAt_setCells_same w4 w.heap.size 0 [.slice ga gs.length gc,.int .i64 fn,.slice aq fl.length cq,.int .i64 tgr,.int .i64 tac,.int .i64 trf,.int .i64 ttr,.int .i64 tvo,.int .i64 tno,.int .i64 tli,.int .i64 tle] (fun j hj=>za HT4 j hj))
 have HB8:=hide (zn w.heap.size (Nat.le_refl _) [.slice ga gs.length gc,.int .i64 fn,.slice aq fl.length cq,.int .i64 tgr,.int .i64 tac,.int .i64 trf,.int .i64 ttr,.int .i64 tvo,.int .i64 tno,.int .i64 tli,.int .i64 tle] 0 w4 (za HB4))
 have HROW:Hid (∀ {e sz m:Nat} {v:Value} {xs:List Value},w4.ownsRow X.heap.size e sz v m xs→World.ownsRow (w4.setCells w.heap.size 0 [.slice ga gs.length gc,.int .i64 fn,.slice aq fl.length cq,.int .i64 tgr,.int .i64 tac,.int .i64 trf,.int .i64 ttr,.int .i64 tvo,.int .i64 tno,.int .i64 tli,.int .i64 tle]) w.heap.size e sz v m xs):=fun {e sz m v xs} h=>by
  have h3:=zak (b:=w.heap.size) (fun e'=>by have:=(h.lt _ e'.symm).1; omega) [.slice ga gs.length gc,.int .i64 fn,.slice aq fl.length cq,.int .i64 tgr,.int .i64 tac,.int .i64 trf,.int .i64 ttr,.int .i64 tvo,.int .i64 tno,.int .i64 tli,.int .i64 tle] 0 _ h
  refine ⟨h3.1,?_⟩
  rcases h3.2 with k1 | ⟨g',c',cur,k1,k2,k3⟩
  ·exact .inl k1
  ·exact .inr ⟨g',c',cur,k1,by omega,k3⟩
 have HGG:Hid (GRs (w4.setCells w.heap.size 0 [.slice ga gs.length gc,.int .i64 fn,.slice aq fl.length cq,.int .i64 tgr,.int .i64 tac,.int .i64 trf,.int .i64 ttr,.int .i64 tvo,.int .i64 tno,.int .i64 tli,.int .i64 tle]) w.heap.size (.slice ga gs.length gc) fg):=⟨gs,za HROW hg,hgl,fun i g es h1 h2=>za HROW (hge i g es h1 h2)⟩
 have HO:Hid (ORow (w4.setCells w.heap.size 0 [.slice ga gs.length gc,.int .i64 fn,.slice aq fl.length cq,.int .i64 tgr,.int .i64 tac,.int .i64 trf,.int .i64 ttr,.int .i64 tvo,.int .i64 tno,.int .i64 tli,.int .i64 tle]) w.heap.size (.slice aq fl.length cq) fl):=za HROW hq
 clear HROW hg hgl hge hq hb4 hxs
 go_wp2_with fail
 change bodyPost _ _ _ _ _ (w4.setCells w.heap.size 0 [.slice ga gs.length gc,.int .i64 fn,.slice aq fl.length cq,.int .i64 tgr,.int .i64 tac,.int .i64 trf,.int .i64 ttr,.int .i64 tvo,.int .i64 tno,.int .i64 tli,.int .i64 tle])
 generalize w4.setCells w.heap.size 0 [.slice ga gs.length gc,.int .i64 fn,.slice aq fl.length cq,.int .i64 tgr,.int .i64 tac,.int .i64 trf,.int .i64 ttr,.int .i64 tvo,.int .i64 tno,.int .i64 tli,.int .i64 tle] = WE at HR8 HB8 HGG HO ⊢
 have d0:WE.cell? ⟨w.heap.size,0,none⟩ = some (.slice ga gs.length gc):=za HR8 0 _ rfl
 have d1:WE.cell? ⟨w.heap.size,1,none⟩ = some (.int .i64 fn):=za HR8 1 _ rfl
 have d2:WE.cell? ⟨w.heap.size,2,none⟩ = some (.slice aq fl.length cq):=za HR8 2 _ rfl
 have d3:WE.cell? ⟨w.heap.size,3,none⟩ = some (.int .i64 tgr):=za HR8 3 _ rfl
 have d4:WE.cell? ⟨w.heap.size,4,none⟩ = some (.int .i64 tac):=za HR8 4 _ rfl
 have d5:WE.cell? ⟨w.heap.size,5,none⟩ = some (.int .i64 trf):=za HR8 5 _ rfl
 have d6:WE.cell? ⟨w.heap.size,6,none⟩ = some (.int .i64 ttr):=za HR8 6 _ rfl
 have d7:WE.cell? ⟨w.heap.size,7,none⟩ = some (.int .i64 tvo):=za HR8 7 _ rfl
 have d8:WE.cell? ⟨w.heap.size,8,none⟩ = some (.int .i64 tno):=za HR8 8 _ rfl
 have d9:WE.cell? ⟨w.heap.size,9,none⟩ = some (.int .i64 tli):=za HR8 9 _ rfl
 have d10:WE.cell? ⟨w.heap.size,10,none⟩ = some (.int .i64 tle):=za HR8 10 _ rfl
 refine bodyPost_ret (by simp [results,Tryz.results19,go_sem,d0,d1,d2,d3,d4,d5,d6,d7,d8,d9,d10]; try rfl) rfl ?_
 rw [za HCD]
 exact ⟨_,_,rfl,za HGG,za HO,za HB8⟩
end Go.Proofs.YtdfihaabhichdaaGreat
namespace Go.Proofs.YtdfihaabhichdaaGreat
open Go.RowKit
set_option linter.unusedVariables false

def markC (k:Nat):Cm:=⟨k,(k:Int) + 1,(k:Int) + 1 + 1,(k:Int) + 1 + 1 + 1,(k:Int) + 1 + 1 + 1 + 1,(k:Int) + 1 + 1 + 1 + 1 + 1,floatOfInt .f64 ((k:Int) + 1 + 1 + 1 + 1 + 1 + 1),markS (k + 7)⟩
def mark7 (k:Nat):List Value:=[.int .i64 (k:Int),.int .i64 ((k:Int) + 1),.int .i64 ((k:Int) + 1 + 1),.int .i64 ((k:Int) + 1 + 1 + 1),.int .i64 ((k:Int) + 1 + 1 + 1 + 1),.int .i64 ((k:Int) + 1 + 1 + 1 + 1 + 1),.float .f64 (floatOfInt .f64 ((k:Int) + 1 + 1 + 1 + 1 + 1 + 1))]
def zbS (k n:Nat):List Cm:=(List.range n).map fun i=>markC (k + 8 * i)
theorem zbl (k n:Nat):(zbS k n).length = n:=by simp [zbS]
theorem marksC_more (k n:Nat):zbS k (n + 1) = zbS k n ++ [markC (k + 8 * n)]:=by simp [zbS,List.range_succ]
set_option maxRecDepth 100000 in
set_option maxHeartbeats 800000 in
theorem markCmdS_any (g len cap k:Nat) (w:World) (hl:len ≤ 2097152) (hk0:0 < k) (hk1:k ≤ 1000000000) (hg:g < w.heap.size) (ht:w.there g 0 (len * 8)) :
    Calls Tryz.prog 24 #[.slice (some ⟨g,0,none⟩) len cap,.int .i64 k] w fun e w'=>e = .returned (.int .i64 ((k + 8 * len:Nat):Int))∧MarkR Cm.vs 8 len g w w' (zbS k len):=by
  have HM:Hid (MarkR Cm.vs 8 len g w w (zbS k 0)):=⟨by simp [zbS],ht,World.grownBy.refl _ _,by simp [zbS],hg⟩
  have hsf:=sfl
  clear ht
  go_enter Tryz.func24,Tryz.ntmps24
  go_wp2_with fail
  go_loopw [1,5] (fun kv i wr=>∃ m kk:Nat,m ≤ len∧i = .int .i64 m∧kv = .int .i64 kk∧Hid (kk = k + 8 * m)∧MarkR Cm.vs 8 len g w wr (zbS k m)) (fun _ i _=>len - (intOf i).toNat)
  case atStart=>exact ⟨0,k,Nat.zero_le _,rfl,rfl,rfl,za HM⟩
  case round =>
    obtain ⟨m,kk,hm,rfl,rfl,hkk,hmr⟩:=hrel
    have HR:=hide hmr
    have hkb:(kk:Int) ≤ 1020000000:=by have:=za hkk; omega
    clear hmr HM
    by_cases hlt:m < len
    · obtain ⟨⟨x0,y0,z0⟩,⟨x1,y1,z1⟩,⟨x2,y2,z2⟩,⟨x3,y3,z3⟩,⟨x4,y4,z4⟩,⟨x5,y5,z5⟩,⟨x6,y6,z6⟩,x7,y7,z7⟩:=there8 (zap (i:=m * 8) (m:=8) (za HR).2.1 (by omega))
      have hlt':(m:Int) < len:=by omega
      go_wp2_with fail
      refine (zbq _ (kk + 7) _ (by omega) (by omega) (by omega)).mono ?_
      rintro e W2 ⟨rfl,hb⟩
      have hb':Below (wr.setCells g (m * 8) (mark7 kk)).heap.size (wr.setCells g (m * 8) (mark7 kk)) W2:=hb
      have T2:=zd (World.there_setCells (za HR).2.1 g (m * 8) (mark7 kk)) hb' (by rw [zv]; exact (za HR).2.2.2.2)
      obtain ⟨v7,c7,f7⟩:=zB (zap (i:=m * 8 + 7) (m:=1) T2 (by omega)) 0 (by omega)
      have HB:=hide hb'
      clear hb hb' T2 y0 z0 y1 z1 y2 z2 y3 z3 y4 z4 y5 z5 y6 z6 y7 z7
      rw [Nat.add_zero] at c7 f7
      go_wp2_with fail
      go_roundw
      case rel =>
        refine ⟨m + 1,kk + 8,by omega,by go_num,congrArg (Value.int .i64) (by omega),by have:=za hkk; show kk + 8 = _; omega,?_⟩
        have h:=mark_stepR (markC kk) (mark7 kk) (.string (markS (kk + 7))) rfl (za HR) (by rw [zbl]; exact hlt) Cm.len (by rw [zbl]; exact za HB) (by rw [zv]; exact Nat.le_refl _)
        rw [zbl,za hkk,← marksC_more,← za hkk] at h
        exact h
      case measure=>simp [intOf]; omega
    · go_wp2_with fail
      go_ret
      obtain rfl:m = len:=by omega
      have h:=za hkk
      subst h
      exact ⟨rfl,za HR⟩
end Go.Proofs.YtdfihaabhichdaaGreat
namespace Go.Proofs.YtdfihaabhichdaaGreat
open Go.RowKit
set_option linter.unusedVariables false

theorem markCmdS_nil (a:Option Addr) (cap k:Nat) (w:World) :
    Calls Tryz.prog 24 #[.slice a 0 cap,.int .i64 k] w fun e w'=>e = .returned (.int .i64 k)∧w' = w:=by
  go_enter Tryz.func24,Tryz.ntmps24
  go_wp2
  refine wp_loop_rounds 1 ?_
  rw [rounds_succ]
  go_wp2
  go_ret
  exact ⟨rfl,rfl⟩
theorem markC_own {B:Nat} (v:Value) (l:List Cm) (w:World) (h:OwnR Cm.vs 8 B w v l) (hl:l.length ≤ 2097152) :
    Calls Tryz.prog 24 #[v,.int .i64 1] w fun e w'=>e = .returned (.int .i64 ((1 + 8 * l.length:Nat):Int))∧OwnR Cm.vs 8 B w' v (zbS 1 l.length) ∧
      ∃ G,w.grownBy w' G∧∀ g,G = some g→v.ownBlock = some g∧B ≤ g∧l ≠ []:=by
  obtain ⟨a,cap,rfl,hlen,h⟩:=h
  by_cases hne:l = []
  · subst hne
    refine (markCmdS_nil a cap 1 w).mono ?_
    rintro e w' ⟨rfl,rfl⟩
    exact ⟨rfl,⟨a,cap,rfl,by simp [zbS],fun h=>absurd rfl h⟩,none,World.grownBy.refl _ _,fun g hg=>by cases hg⟩
  · obtain ⟨g,rfl,h0,h1,h2,h3⟩:=h hne
    refine (markCmdS_any g l.length cap 1 w hl (by omega) (by omega) h1 h3).mono ?_
    rintro e w' ⟨rfl,m1,m2,m3,m4,m5⟩
    refine ⟨rfl,⟨_,cap,by rw [zbl],by rw [zbl]; exact hlen,fun _=>⟨g,rfl,h0,m5,m1,by rw [zbl]; exact m2⟩⟩,some g,m3,fun g' hg=>?_⟩
    obtain rfl:=Option.some.inj hg
    exact ⟨rfl,h0,hne⟩
end Go.Proofs.YtdfihaabhichdaaGreat
namespace Go.Proofs.YtdfihaabhichdaaGreat
open Go.RowKit Go.ChangeShapes Go.WideShapes Go.Deep
set_option linter.unusedVariables false

section
variable {H:Type} {enc:TypeId × Value→H} {w:World} {base:Nat} {spare:Nat→Bool} {held:Bool}
def IsCmds (w:World) (a:Option Addr) (len cap:Nat):Prop :=
  len ≤ maxLen∧(len ≤ 1073741824→∃ l:List Cm,l.length = len∧RdR Cm.vs 8 w (.slice a len cap) l∧∀ c ∈ l,c.ok)
theorem cmds_opened {fuel:Nat} {a:Option Addr} {len cap:Nat} {x:DataW H × List MemPlace} (h:DataW.trod enc Tryz.prog w base spare held fuel 44 [.slice a len cap] = some x):IsCmds w a len cap:=by
  rcases open_slice Tryz.underlying44 h with ⟨hcs,_⟩ | ⟨ad,ln,cp,m,n,D,Pl,hcs,_,hl,hm,hmm,_,hel⟩
  · simp only [List.cons.injEq,Value.slice.injEq,and_true] at hcs
    obtain ⟨rfl,rfl,rfl⟩:=hcs
    exact ⟨Nat.zero_le _,fun _=>⟨[],rfl,⟨none,0,rfl,by simp,fun h=>absurd rfl h⟩,by simp⟩⟩
  · simp only [List.cons.injEq,Value.slice.injEq,and_true] at hcs
    obtain ⟨rfl,rfl,rfl⟩:=hcs
    have k37:Tryz.prog.cellsOf 27 = 8:=by kernel_rfl
    rw [k37] at hel
    have hlm:len ≤ m:=by rw [hmm]; split <;> omega
    refine ⟨by omega,fun hb=>?_⟩
    have hc:∀ i,i < len→∃ c:Cm,c.ok∧∀ j v,c.vs[j]? = some v→w.cell? (ad.add (i * 8 + j)) = some v:=by
      intro i hi
      obtain ⟨cs',h1,h2⟩:=hel i (by omega)
      obtain ⟨c,rfl,hok⟩:=cm_opened h2
      obtain ⟨_,_,hcell⟩:=World.cells?_some h1
      refine ⟨c,hok,fun j v hv=>?_⟩
      have:=hcell j (List.getElem?_eq_some_iff.1 hv).1
      rw [add_add] at this
      rw [this,hv]
    have hb0:0 < len→∃ b off,ad = ⟨b,off,none⟩∧b < w.heap.size:=by
      intro hp
      obtain ⟨c,_,h0⟩:=hc 0 hp
      have h0:=h0 0 _ rfl
      obtain ⟨b,off,spot⟩:=ad
      have hspot:spot = none:=by simpa [Addr.add] using World.cell?_spot h0
      subst hspot
      exact ⟨b,off,rfl,by have:=World.block_lt_of_cell? w _ h0; simpa [Addr.add] using this⟩
    haveI:Inhabited Cm:=⟨⟨0,0,0,0,0,0,0,⟨#[]⟩⟩⟩
    obtain ⟨F,hF⟩:=choose_lt hc
    have hget:∀ i c,((List.range len).map F)[i]? = some c→i < len∧c = F i:=by
      intro i c hi
      have hlt:i < len:=by simpa using (List.getElem?_eq_some_iff.1 hi).1
      refine ⟨hlt,?_⟩
      rw [List.getElem?_map,List.getElem?_range hlt] at hi
      simpa using hi.symm
    refine ⟨(List.range len).map F,by simp,⟨some ad,cap,by simp,by simpa using hb,fun hne=>?_⟩,fun c hcm=>?_⟩
    · have hp:0 < len:=by
        rcases Nat.eq_zero_or_pos len with h0 | h0
        · subst h0; simp at hne
        · exact h0
      obtain ⟨b,off,rfl,hlt⟩:=hb0 hp
      refine ⟨b,off,rfl,hlt,fun i c hi j v hv=>?_⟩
      obtain ⟨hi',rfl⟩:=hget i c hi
      have:=(hF i hi').2 j v hv
      rw [Addr.add_mid] at this
      rw [Nat.add_assoc]; exact this
    · obtain ⟨i,hi⟩:=List.mem_iff_getElem?.1 hcm
      obtain ⟨hi',rfl⟩:=hget i c hi
      exact (hF i hi').1
end
end Go.Proofs.YtdfihaabhichdaaGreat
