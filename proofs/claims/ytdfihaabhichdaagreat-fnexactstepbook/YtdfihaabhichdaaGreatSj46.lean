/-
  A command done on a book, by the model, whichever way it goes: put together.
-/
import Derived.Test.YtdfihaabhichdaaGreatSj03
import Derived.Test.YtdfihaabhichdaaGreatSj07
import Derived.Test.YtdfihaabhichdaaGreatSj26
import Derived.Test.YtdfihaabhichdaaGreatSj41
import Derived.Test.YtdfihaabhichdaaGreatSj42
import Derived.Test.YtdfihaabhichdaaGreatSj43
import Derived.Test.YtdfihaabhichdaaGreatSj44
import Derived.Test.YtdfihaabhichdaaGreatSj45
import Derived.Laws.BytesString
import Derived.WalkLawsBesides
import Derived.Laws.Cover2
import Derived.Deep.RegionWith
namespace Go.Proofs.YtdfihaabhichdaaGreat
open Go.RowKit
set_option linter.unusedVariables false

theorem l04Step_any (next:Int) (vb:Value) (l:List Od) (c:Cm) (w:World) (hr:RdR Od.vs 6 w vb l) (hs:SlOk vb) (hg:GoodL l) (hsd:∀ x ∈ l,x.side = 1 ∨ x.side = 2) (h0:0 ≤ next) (h1:next ≤ 1000000) (ht:c.g.size ≤ maxLen) :
  Calls Tryz.prog 35 #[.agg #[.int .i64 next,vb],cmV c] w fun e w'=>∃ vq vg,e = .returned (.tuple #[.agg #[.int .i64 (stN next l c),vq],vg])∧ORow w' w.heap.size vq (stL next l c)∧ERow w' w.heap.size vg (stE next l c)∧Below w.heap.size w w':=by
 by_cases hrr:refR next l c = 0
 ·rcases zbU hrr with hk | hk | hk | hk
  ·exact l04Step_a next vb l c w ⟨hrr,hk⟩ hr hs hg hsd h0 h1 ht
  ·exact l04Step_c next vb l c w ⟨hrr,hk⟩ hr hs hg hsd h0 h1 ht
  ·exact l04Step_d next vb l c w ⟨hrr,hk⟩ hr hs hg hsd h0 h1 ht
  ·exact l04Step_y next vb l c w ⟨hrr,hk⟩ hr hs hg hsd h0 h1 ht
 ·exact l04Step_r next vb l c w hrr hr hs hg hsd h0 h1 ht
end Go.Proofs.YtdfihaabhichdaaGreat
namespace Go.Proofs.YtdfihaabhichdaaGreat
open Go.RowKit
set_option linter.unusedVariables false

set_option maxRecDepth 100000 in
set_option maxHeartbeats 6400000 in
theorem specStepBook_any (next:Int) (vb:Value) (l:List Od) (c:Cm) (w:World) (hr:RdR Od.vs 6 w vb l) (hs:SlOk vb) (hgt:∀ o ∈ l,o.tag.size ≤ maxLen) (ht:c.g.size ≤ maxLen) :
  Calls Tryz.prog 8 #[.agg #[.int .i64 next,vb],cmV c] w fun e w'=>∃ vq vg,e = .returned (.tuple #[.agg #[.int .i64 (spN next l c),vq],vg,.int .i64 (reaC next l)])∧ORow w' w.heap.size vq (spL next l c)∧ERow w' w.heap.size vg (spE next l c)∧Below w.heap.size w w':=by
 have HR:=hide hr
 have HSL:=hide hs
 have HGT:=hide hgt
 have HTG:=hide ht
 obtain ⟨a,cap,rfl,hlen,hc⟩:=hr
 clear hc hs hgt ht hlen
 have HDO:=hide (fun (hok:okS next l = true) (W:World) hW=>l04Step_any next (.slice a l.length cap) l c W hW (za HSL) (zbh hok).1 (okS_sides hok) (zbh hok).2.1 (zbh hok).2.2 (za HTG))
 have HSN:Hid (spN next l c = if okS next l = true then stN next l c else 0):=rfl
 have HSL2:Hid (spL next l c = if okS next l = true then stL next l c else []):=rfl
 have HSE:Hid (spE next l c = if okS next l = true then stE next l c else []):=rfl
 have HSC:Hid (reaC next l = if okS next l = true then 0 else 1):=rfl
 obtain ⟨kk,s,ty,li,qt,ii,pr,tg⟩:=c
 generalize spN next l ⟨kk,s,ty,li,qt,ii,pr,tg⟩ = sN at HSN ⊢
 generalize spL next l ⟨kk,s,ty,li,qt,ii,pr,tg⟩ = sL at HSL2 ⊢
 generalize spE next l ⟨kk,s,ty,li,qt,ii,pr,tg⟩ = sE at HSE ⊢
 generalize reaC next l = sC at HSC ⊢
 generalize stN next l ⟨kk,s,ty,li,qt,ii,pr,tg⟩ = tN at HSN HDO
 generalize stL next l ⟨kk,s,ty,li,qt,ii,pr,tg⟩ = tL at HSL2 HDO
 generalize stE next l ⟨kk,s,ty,li,qt,ii,pr,tg⟩ = tE at HSE HDO
 unfold cmV at HDO ⊢
 simp only at HDO HTG ⊢
 have HB:=hide (box3 w [.int .i64 next,.slice a l.length cap] [.int .i64 kk,.int .i64 s,.int .i64 ty,.int .i64 li,.int .i64 qt,.int .i64 ii,.float .f64 pr,.string tg] [.int .i64 0,.slice none 0 0] 32 37 32)
 go_enter Tryz.func8,Tryz.ntmps8
 refine wp_seq_k fun K hK=>?_
 have HK1:=hide hK
 clear hK
 go_wp2_with fail
 refine za HK1 _ _ ?_
 clear HK1
 change Hid ((((w.alloc (Obj.cells #[.int .i64 next,.slice a l.length cap] 32)).alloc (Obj.cells #[.int .i64 kk,.int .i64 s,.int .i64 ty,.int .i64 li,.int .i64 qt,.int .i64 ii,.float .f64 pr,.string tg] 37)).alloc (Obj.cells #[.int .i64 0,.slice none 0 0] 32)).heap.size = w.heap.size + 3∧World.rangeAt (((w.alloc (Obj.cells #[.int .i64 next,.slice a l.length cap] 32)).alloc (Obj.cells #[.int .i64 kk,.int .i64 s,.int .i64 ty,.int .i64 li,.int .i64 qt,.int .i64 ii,.float .f64 pr,.string tg] 37)).alloc (Obj.cells #[.int .i64 0,.slice none 0 0] 32)) w.heap.size 0 [.int .i64 next,.slice a l.length cap]∧World.rangeAt (((w.alloc (Obj.cells #[.int .i64 next,.slice a l.length cap] 32)).alloc (Obj.cells #[.int .i64 kk,.int .i64 s,.int .i64 ty,.int .i64 li,.int .i64 qt,.int .i64 ii,.float .f64 pr,.string tg] 37)).alloc (Obj.cells #[.int .i64 0,.slice none 0 0] 32)) (w.heap.size + 1) 0 [.int .i64 kk,.int .i64 s,.int .i64 ty,.int .i64 li,.int .i64 qt,.int .i64 ii,.float .f64 pr,.string tg]∧World.rangeAt (((w.alloc (Obj.cells #[.int .i64 next,.slice a l.length cap] 32)).alloc (Obj.cells #[.int .i64 kk,.int .i64 s,.int .i64 ty,.int .i64 li,.int .i64 qt,.int .i64 ii,.float .f64 pr,.string tg] 37)).alloc (Obj.cells #[.int .i64 0,.slice none 0 0] 32)) (w.heap.size + 1 + 1) 0 [.int .i64 0,.slice none 0 0]∧World.there (((w.alloc (Obj.cells #[.int .i64 next,.slice a l.length cap] 32)).alloc (Obj.cells #[.int .i64 kk,.int .i64 s,.int .i64 ty,.int .i64 li,.int .i64 qt,.int .i64 ii,.float .f64 pr,.string tg] 37)).alloc (Obj.cells #[.int .i64 0,.slice none 0 0] 32)) (w.heap.size + 1 + 1) 0 2∧Below w.heap.size w (((w.alloc (Obj.cells #[.int .i64 next,.slice a l.length cap] 32)).alloc (Obj.cells #[.int .i64 kk,.int .i64 s,.int .i64 ty,.int .i64 li,.int .i64 qt,.int .i64 ii,.float .f64 pr,.string tg] 37)).alloc (Obj.cells #[.int .i64 0,.slice none 0 0] 32))) at HB
 generalize (((w.alloc (Obj.cells #[.int .i64 next,.slice a l.length cap] 32)).alloc (Obj.cells #[.int .i64 kk,.int .i64 s,.int .i64 ty,.int .i64 li,.int .i64 qt,.int .i64 ii,.float .f64 pr,.string tg] 37)).alloc (Obj.cells #[.int .i64 0,.slice none 0 0] 32)) = X at HB ⊢
 have HCELL:Hid (∀ W:World,Below X.heap.size X W→W.cell? ⟨w.heap.size,0,none⟩ = some (.int .i64 next)∧W.cell? ⟨w.heap.size,1,none⟩ = some (.slice a l.length cap)∧W.cell? ⟨w.heap.size + 1,0,none⟩ = some (.int .i64 kk)∧W.cell? ⟨w.heap.size + 1,1,none⟩ = some (.int .i64 s)∧W.cell? ⟨w.heap.size + 1,2,none⟩ = some (.int .i64 ty)∧W.cell? ⟨w.heap.size + 1,3,none⟩ = some (.int .i64 li)∧W.cell? ⟨w.heap.size + 1,4,none⟩ = some (.int .i64 qt)∧W.cell? ⟨w.heap.size + 1,5,none⟩ = some (.int .i64 ii)∧W.cell? ⟨w.heap.size + 1,6,none⟩ = some (.float .f64 pr)∧W.cell? ⟨w.heap.size + 1,7,none⟩ = some (.string tg)):=fun W hW =>
  have p:=zb (za HB).2.1 hW (by have:=(za HB).1; omega)
  have q:=zb (za HB).2.2.1 hW (by have:=(za HB).1; omega)
  ⟨p 0 _ rfl,p 1 _ rfl,q 0 _ rfl,q 1 _ rfl,q 2 _ rfl,q 3 _ rfl,q 4 _ rfl,q 5 _ rfl,q 6 _ rfl,q 7 _ rfl⟩
 obtain ⟨z0,z1,y0,y1,y2,y3,y4,y5,y6,y7⟩:=za HCELL X (Below.refl _ _)
 refine wp_seq_k fun K hK=>?_
 have HK1:=hide hK
 clear hK
 go_wp2_with fail
 refine (specBookOK_any next _ l X (zj (za HR) (za HB).2.2.2.2.2 (Nat.le_refl _)) (za HGT)).mono ?_
 rintro e w3 ⟨rfl,hb3⟩
 have HB3:=hide hb3
 clear hb3 z0 z1 y0 y1 y2 y3 y4 y5 y6 y7
 have hRX:w.heap.size + 1 + 1 < X.heap.size:=by have:=(za HB).1; omega
 cases hok:okS next l
 ·have HK:Hid (sN = 0∧sL = []∧sE = []∧sC = 1):=⟨by rw [za HSN,hok]; rfl,by rw [za HSL2,hok]; rfl,by rw [za HSE,hok]; rfl,by rw [za HSC,hok]; rfl⟩
  have hbA:Below w3.heap.size w3 (w3.alloc (Obj.cells #[] 80)):=(Below.refl _ _).alloc (Nat.le_refl _) _
  have HB4:=hide ((za HB3).trans (hbA.mono (za HB3).size))
  have HT3:=hide (zf (za HB).2.2.2.2.1 (za HB4) hRX)
  have HR3:=hide (zb (za HB).2.2.2.1 (za HB4) hRX)
  have HEA:Hid (ERow (w3.alloc (Obj.cells #[] 80)) w.heap.size (.slice (some ⟨w3.heap.size,0,none⟩) 0 0) []):=World.ownsRow_made w3 #[] 0 (by have:=(za HB).2.2.2.2.2.size; have:=(za HB3).size; omega) (by decide) rfl
  have x0:World.cell? (w3.alloc (Obj.cells #[] 80)) ⟨w.heap.size + 1 + 1,0,none⟩ = some (.int .i64 0):=za HR3 0 _ rfl
  have x1:World.cell? (w3.alloc (Obj.cells #[] 80)) ⟨w.heap.size + 1 + 1,1,none⟩ = some (.slice none 0 0):=za HR3 1 _ rfl
  have q0:World.frozen? (w3.alloc (Obj.cells #[] 80)) ⟨w.heap.size + 1 + 1,0,none⟩ = false:=(za HT3 0 (by omega)).2
  have q1:World.frozen? (w3.alloc (Obj.cells #[] 80)) ⟨w.heap.size + 1 + 1,1,none⟩ = false:=(za HT3 1 (by omega)).2
  have hne3:some (w.heap.size + 1 + 1) ≠ (Value.slice (some ⟨w3.heap.size,0,none⟩) 0 0).ownBlock:=by simp only [Value.ownBlock,ne_eq,Option.some.injEq]; have:=(za HB3).size; omega
  have HEF:Hid (ERow (((w3.alloc (Obj.cells #[] 80)).setCell ⟨w.heap.size + 1 + 1,0,none⟩ (.int .i64 0)).setCell ⟨w.heap.size + 1 + 1,1,none⟩ (.slice none 0 0)) w.heap.size (.slice (some ⟨w3.heap.size,0,none⟩) 0 0) []):=zz (zz (za HEA) hne3 0 _) hne3 1 _
  have HW:Hid (Below w.heap.size w (((w3.alloc (Obj.cells #[] 80)).setCell ⟨w.heap.size + 1 + 1,0,none⟩ (.int .i64 0)).setCell ⟨w.heap.size + 1 + 1,1,none⟩ (.slice none 0 0))):=(((za HB).2.2.2.2.2.trans ((za HB4).mono (za HB).2.2.2.2.2.size)).setCell (p:=⟨w.heap.size + 1 + 1,0,none⟩) (show w.heap.size ≤ w.heap.size + 1 + 1 by omega) _).setCell (p:=⟨w.heap.size + 1 + 1,1,none⟩) (show w.heap.size ≤ w.heap.size + 1 + 1 by omega) _
  have HD0:Hid ((((w3.alloc (Obj.cells #[] 80)).setCell ⟨w.heap.size + 1 + 1,0,none⟩ (.int .i64 0)).setCell ⟨w.heap.size + 1 + 1,1,none⟩ (.slice none 0 0)).cell? ⟨w.heap.size + 1 + 1,0,none⟩ = some (.int .i64 0)):=(World.cell?_setCell_other _ _ _ _ (zS (by decide))).trans (World.cell?_setCell_same _ _ _ x0)
  have HD1:Hid ((((w3.alloc (Obj.cells #[] 80)).setCell ⟨w.heap.size + 1 + 1,0,none⟩ (.int .i64 0)).setCell ⟨w.heap.size + 1 + 1,1,none⟩ (.slice none 0 0)).cell? ⟨w.heap.size + 1 + 1,1,none⟩ = some (.slice none 0 0)):=World.cell?_setCell_same _ _ _ ((World.cell?_setCell_other _ _ _ _ (zS (by decide))).trans x1)
  clear hok HSN HSL2 HSE HSC HDO hbA hne3
  go_wp2_with fail
  have d0:=za HD0
  have d1:=za HD1
  try simp only [Exit.inBlock,Exit.then]
  refine bodyPost_ret (by simp [results,Tryz.results8,go_sem,d0,d1]; try rfl) rfl ?_
  obtain ⟨rfl,rfl,rfl,rfl⟩:=za HK
  exact ⟨_,_,rfl,World.ownsRow_nil _ _ _ _,za HEF,za HW⟩
 have HK:Hid (sN = tN∧sL = tL∧sE = tE∧sC = 0):=⟨by rw [za HSN,if_pos hok],by rw [za HSL2,if_pos hok],by rw [za HSE,if_pos hok],by rw [za HSC,if_pos hok]⟩
 have HDO1:=hide (za HDO hok)
 have hl20:=(zbh hok).1.len
 clear hok HSN HSL2 HSE HSC HDO
 obtain ⟨z0,z1,y0,y1,y2,y3,y4,y5,y6,y7⟩:=za HCELL w3 (za HB3)
 go_wp2_with fail
 refine za HK1 _ _ ?_
 clear HK1
 refine wp_seq_k fun K hK=>?_
 have HK1:=hide hK
 clear hK
 go_wp2_with fail
 refine (za HDO1 w3 (zj (za HR) ((za HB).2.2.2.2.2.trans ((za HB3).mono (za HB).2.2.2.2.2.size)) (Nat.le_refl _))).mono ?_
 rintro e w4 ⟨vq4,vg4,rfl,hq4,hg4,hb4⟩
 obtain ⟨aq,cq,rfl⟩:=zV hq4
 obtain ⟨ag,cg,rfl⟩:=zV hg4
 have hbA:Below w4.heap.size w4 (w4.alloc (Obj.cells #[.int .i64 tN,.slice aq tL.length cq] 32)):=(Below.refl _ _).alloc (Nat.le_refl _) _
 have HBA:=hide ((za HB3).trans ((hb4.trans (hbA.mono hb4.size)).mono (za HB3).size))
 have HQ4:=hide (zg hq4 hbA)
 have HG4:=hide (zn hg4 hbA)
 have h3:w.heap.size + 1 + 1 < w3.heap.size:=Nat.lt_of_lt_of_le hRX (za HB3).size
 have HTR:=hide (zf (za HB).2.2.2.2.1 (za HBA) hRX)
 have HRW:Hid (World.rangeAt (w4.alloc (Obj.cells #[.int .i64 tN,.slice aq tL.length cq] 32)) w4.heap.size 0 [.int .i64 tN,.slice aq tL.length cq]):=zh w4 [.int .i64 tN,.slice aq tL.length cq] _
 clear hbA hb4 hq4 hg4 z0 z1 y0 y1 y2 y3 y4 y5 y6 y7
 go_wp2_with fail
 refine za HK1 _ _ ?_
 clear HK1
 generalize hWW:(w4.alloc (Obj.cells #[.int .i64 tN,.slice aq tL.length cq] 32)) = Y at HBA HQ4 HG4 HTR HRW ⊢
 clear hWW
 obtain ⟨p0,x0,f0⟩:=zd (za HTR) (j:=0) (by omega)
 obtain ⟨p1,x1,f1⟩:=zd (za HTR) (j:=1) (by omega)
 have k0:Y.cell? ⟨w4.heap.size,0,none⟩ = some (.int .i64 tN):=za HRW 0 _ rfl
 have k1:Y.cell? ⟨w4.heap.size,1,none⟩ = some (.slice aq tL.length cq):=za HRW 1 _ rfl
 have hBW:=(za HB).2.2.2.2.2.trans ((za HBA).mono (za HB).2.2.2.2.2.size)
 have HW:Hid (Below w.heap.size w ((Y.setCell ⟨w.heap.size + 1 + 1,0,none⟩ (.int .i64 tN)).setCell ⟨w.heap.size + 1 + 1,1,none⟩ (.slice aq tL.length cq))):=(hBW.setCell (p:=⟨w.heap.size + 1 + 1,0,none⟩) (show w.heap.size ≤ w.heap.size + 1 + 1 by omega) _).setCell (p:=⟨w.heap.size + 1 + 1,1,none⟩) (show w.heap.size ≤ w.heap.size + 1 + 1 by omega) _
 have HQF:Hid (ORow ((Y.setCell ⟨w.heap.size + 1 + 1,0,none⟩ (.int .i64 tN)).setCell ⟨w.heap.size + 1 + 1,1,none⟩ (.slice aq tL.length cq)) w.heap.size (.slice aq tL.length cq) tL):=zE (zat (zat (za HQ4) h3 0 _) h3 1 _) (by omega)
 have HGF:Hid (ERow ((Y.setCell ⟨w.heap.size + 1 + 1,0,none⟩ (.int .i64 tN)).setCell ⟨w.heap.size + 1 + 1,1,none⟩ (.slice aq tL.length cq)) w.heap.size (.slice ag tE.length cg) tE):=zE (zbf (zbf (za HG4) h3 0 _) h3 1 _) (by omega)
 have HD0:Hid (((Y.setCell ⟨w.heap.size + 1 + 1,0,none⟩ (.int .i64 tN)).setCell ⟨w.heap.size + 1 + 1,1,none⟩ (.slice aq tL.length cq)).cell? ⟨w.heap.size + 1 + 1,0,none⟩ = some (.int .i64 tN)):=(World.cell?_setCell_other _ _ _ _ (zS (by decide))).trans (World.cell?_setCell_same _ _ _ x0)
 have HD1:Hid (((Y.setCell ⟨w.heap.size + 1 + 1,0,none⟩ (.int .i64 tN)).setCell ⟨w.heap.size + 1 + 1,1,none⟩ (.slice aq tL.length cq)).cell? ⟨w.heap.size + 1 + 1,1,none⟩ = some (.slice aq tL.length cq)):=World.cell?_setCell_same _ _ _ ((World.cell?_setCell_other _ _ _ _ (zS (by decide))).trans x1)
 clear hBW
 go_wp2_with fail
 have d0:=za HD0
 have d1:=za HD1
 try simp only [Exit.inBlock,Exit.then]
 refine bodyPost_ret (by simp [results,Tryz.results8,go_sem,d0,d1]; try rfl) rfl ?_
 obtain ⟨rfl,rfl,rfl,rfl⟩:=za HK
 exact ⟨_,_,rfl,za HQF,za HGF,za HW⟩
end Go.Proofs.YtdfihaabhichdaaGreat
namespace Go.Proofs.YtdfihaabhichdaaGreat
open Go.RowKit
set_option linter.unusedVariables false

def strB (ns:List Int):ByteArray:=ns.foldl (fun r n=>r.push (UInt8.ofNat n.toNat)) ByteArray.empty
theorem load_row {P:Program} (W:World) (b off:Nat) (ns:List Int) (h:∀ i,i < ns.length→W.cell? ⟨b,off + i,none⟩ = some (.int .u8 (ns.getD i 0))) :
    ∀ (m i:Nat) (acc:Array Value),i + m = ns.length→acc = ((ns.take i).map (Value.int .u8)).toArray→(loadCellsFrom ⟨b,off,none⟩ i m acc).run P W = .ok (ns.map (Value.int .u8)).toArray W:=by
  intro m
  induction m with
  | zero =>
    intro i acc hi ha
    subst ha
    rw [List.take_of_length_le (by omega)]
    rfl
  | succ m ih =>
    intro i acc hi ha
    have e:(⟨b,off,none⟩:Addr).add i = ⟨b,off + i,none⟩:=by unfold Addr.add; split <;> simp_all
    have hc:=h i (by omega)
    simp only [loadCellsFrom,Sem.run_bind,e]
    have hl:(load ⟨b,off + i,none⟩).run P W = .ok (.int .u8 (ns.getD i 0)) W:=by simp [hc]
    rw [hl]
    simp only [Result.andThen]
    refine ih (i + 1) _ (by omega) ?_
    rw [ha,take_get ns i (by omega),List.map_append]
    simp
theorem conv_text (v:Value) (ns:List Int) (W:World) (hr:Rd W v ns) :
    (convert 139 9 v).run Tryz.prog W = .ok (.string (strB ns)) W:=by
  obtain ⟨a,cap,rfl,_,hc⟩:=hr
  rw [run_convert_bytes_string W _ _ 5 a _ _ Tryz.underlying139 Tryz.underlying5 Tryz.underlying9]
  by_cases hne:ns = []
  · subst hne
    cases a with
    | none=>rfl
    | some ad=>rfl
  · obtain ⟨b,off,rfl,hcell⟩:=hc hne
    exact run_bytesToString W ⟨b,off,none⟩ ns.length cap ns (load_row W b off ns hcell ns.length 0 #[] (by omega) rfl)
end Go.Proofs.YtdfihaabhichdaaGreat
namespace Go.Proofs.YtdfihaabhichdaaGreat
open Go.RowKit
set_option linter.unusedVariables false

def ch (n:Int):ByteArray:=strB [n]
def digF:Nat→Nat→ByteArray→ByteArray
  | 0,_,o=>o
  | f + 1,k,o=>if k = 0 then o else digF f (k / 10) (ch (48 + (k:Int) % 10) ++ o)
theorem digF_zero (f:Nat) (o:ByteArray):digF f 0 o = o:=by cases f <;> rfl
theorem digF_more:∀ (f k:Nat) (o:ByteArray),k ≤ f→0 < k→digF f k o = digF (f - 1) (k / 10) (ch (48 + (k:Int) % 10) ++ o)
  | 0,k,o,h,h0=>by omega
  | f + 1,k,o,h,h0=>by simp only [digF,Nat.add_sub_cancel]; rw [if_neg (by omega)]
def markS (k:Nat):ByteArray:=⟨#[109]⟩ ++ digF k k ⟨#[]⟩
theorem one_text (b:Nat) (x:Int) (W:World) (h:W.cell? ⟨b,0,none⟩ = some (.int .u8 x)) :
    (convert 139 9 (.slice (some ⟨b,0,none⟩) 1 1)).run Tryz.prog W = .ok (.string (ch x)) W:=by
  refine conv_text _ [x] W ⟨_,1,rfl,by simp,fun _=>⟨b,0,rfl,fun i hi=>?_⟩⟩
  obtain rfl:i = 0:=by simp at hi; omega
  exact h
set_option maxRecDepth 100000 in
set_option maxHeartbeats 400000 in
theorem markText_any (K:Nat) (w:World) (h0:0 < K) (h1:K ≤ 1073741824) :
    Calls Tryz.prog 43 #[.int .i64 K] w fun e w'=>e = .returned (.string (markS K))∧Below w.heap.size w w':=by
  have h0':¬ ((K:Int) ≤ 0):=by omega
  go_enter Tryz.func43,Tryz.ntmps43
  go_wp2_with fail
  go_loopw [0,3] (fun kv ov wr=>∃ (f k:Nat) (o:ByteArray),kv = .int .i64 k∧k ≤ f∧k ≤ K∧ov = .string o∧o.size + k ≤ K∧Hid (digF f k o = digF K K ⟨#[]⟩)∧Below w.heap.size w wr) (fun kv _ _=>(intOf kv).toNat)
  case atStart=>exact ⟨K,K,⟨#[]⟩,rfl,Nat.le_refl _,Nat.le_refl _,rfl,by rw [show (⟨#[]⟩:ByteArray).size = 0 from rfl]; omega,rfl,Below.refl _ _⟩
  case round =>
    obtain ⟨f,k,o,rfl,hkf,hk,rfl,hsz,ho,hbel⟩:=hrel
    have HB:=hide hbel
    clear hbel
    by_cases hk0:0 < k
    · have hk0':(0:Int) < k:=by omega
      have hcv:=one_text wr.heap.size (48 + (k:Int) % 10) (wr.alloc (Obj.cells #[.int .u8 (48 + (k:Int) % 10)] 5)) (cell_of_row _ wr.heap.size 0 _ _ _ (heap_alloc_new wr _))
      have HO:=hide ((digF_more f k o hkf hk0).symm.trans ho)
      clear ho
      have hc1:(ch (48 + (k:Int) % 10)).size = 1:=rfl
      generalize ch (48 + (k:Int) % 10) = c at *
      go_wp2_with fail
      go_roundw
      case rel=>exact ⟨f - 1,k / 10,c ++ o,by go_num,by omega,by omega,rfl,by rw [ByteArray.size_append]; omega,za HO,(za HB).alloc (za HB).size _⟩
      case measure=>simp [intOf]; omega
    · have hk0':¬ ((0:Int) < k):=by omega
      have HO:Hid (o = digF K K ⟨#[]⟩):=by
        have h:=za ho
        rw [show k = 0 by omega,digF_zero] at h; exact h
      clear ho
      go_wp2_with fail
      go_ret
      refine ⟨?_,za HB⟩
      rw [za HO]; rfl
end Go.Proofs.YtdfihaabhichdaaGreat
namespace Go.Proofs.YtdfihaabhichdaaGreat
open Go.RowKit
set_option linter.unusedVariables false

section
variable {α:Type} (f:α→List Value) (sz:Nat)
def MarkR (n g:Nat) (w wr:World) (done:List α):Prop :=
  (∀ i c,done[i]? = some c→wr.rangeAt g (0 + i * sz) (f c))∧wr.there g 0 (n * sz)∧w.grownBy wr (some g)∧done.length ≤ n∧g < wr.heap.size
variable {f sz}
theorem zbx {w:World} (g:Nat):∀ (vs:List Value) (o:Nat) (wr:World),w.grownBy wr (some g)→w.grownBy (wr.setCells g o vs) (some g)
  | [],_,_,h=>h
  | v :: r,o,wr,h=>by rw [World.setCells]; exact zbx g r (o + 1) _ (gr_trans h (gr_set wr ⟨g,o,none⟩ v))
theorem range_append {w:World} {b o:Nat} {a c:List Value} (h1:w.rangeAt b o a) (h2:w.rangeAt b (o + a.length) c):w.rangeAt b o (a ++ c):=fun j v hv=>by
  by_cases hj:j < a.length
  · rw [List.getElem?_append_left hj] at hv; exact h1 j v hv
  · rw [List.getElem?_append_right (by omega)] at hv
    have:=h2 _ v hv
    rw [show o + a.length + (j - a.length) = o + j by omega] at this; exact this
theorem zaK {w:World} {g i m n:Nat} (h:w.there g 0 n) (hi:i + m ≤ n):w.there g i m:=fun j hj=>by
  have:=h (i + j) (by omega)
  rw [Nat.zero_add] at this; exact this
theorem mark_stepR {n g C:Nat} {w wr W2:World} {done:List α} (x:α) (a:List Value) (z:Value) (hx:f x = a ++ [z]) (h:MarkR f sz n g w wr done) (hn:done.length < n) (hf:∀ c,(f c).length = sz)
    (hb:Below C (wr.setCells g (done.length * sz) a) W2) (hC:wr.heap.size ≤ C):MarkR f sz n g w (W2.setCells g (done.length * sz + a.length) [z]) (done ++ [x]):=by
  obtain ⟨h1,h2,h3,h4,h5⟩:=h
  have hsz:a.length + 1 = sz:=by rw [← hf x,hx]; simp
  have hle:done.length * sz + sz ≤ n * sz:=by
    have:=Nat.mul_le_mul_right sz (show done.length + 1 ≤ n by omega)
    rw [Nat.add_mul] at this; omega
  have hlt:g < C:=by omega
  have t1:(wr.setCells g (done.length * sz) a).there g 0 (n * sz):=World.there_setCells h2 _ _ _
  have t2:=zf t1 hb hlt
  have ra:W2.rangeAt g (done.length * sz) a:=zb (World.rangeAt_setCells_same _ _ _ _ (zaK h2 (by omega))) hb hlt
  refine ⟨fun i c hc=>?_,World.there_setCells t2 _ _ _,?_,by simp; omega,?_⟩
  · by_cases hi:i < done.length
    · rw [List.getElem?_append_left hi] at hc
      have hi':=Nat.mul_le_mul_right sz (show i + 1 ≤ done.length by omega)
      rw [Nat.add_mul] at hi'
      refine World.rangeAt_setCells_apart (zb (World.rangeAt_setCells_apart (h1 i c hc) _ _ _ (.inr (.inl ?_))) hb hlt) _ _ _ (.inr (.inl ?_))
      · rw [hf c]; omega
      · rw [hf c]; omega
    · have hlen:i < (done ++ [x]).length:=(List.getElem?_eq_some_iff.1 hc).1
      have hi':i = done.length:=by simp at hlen; omega
      subst hi'
      simp only [List.getElem?_append_right (Nat.le_refl _),Nat.sub_self,List.getElem?_cons_zero,Option.some.injEq] at hc
      subst hc
      rw [Nat.zero_add,hx]
      exact range_append (World.rangeAt_setCells_apart ra _ _ _ (.inr (.inl (by omega)))) (World.rangeAt_setCells_same _ _ _ _ (zaK t2 (by simp; omega)))
  · exact zbx g _ _ _ (gr_trans (zbx g _ _ _ h3) (zac hb (by rw [zB]; exact hC)))
  · rw [zB]
    have:=hb.size
    rw [zB] at this
    omega
end

theorem zbT (x:Int) (K:Nat) (w:World) (hx:x = K) (h0:0 < K) (h1:K ≤ 1073741824) :
    Calls Tryz.prog 43 #[.int .i64 x] w fun e w'=>e = .returned (.string (markS K))∧Below w.heap.size w w':=by
  subst hx; exact markText_any K w h0 h1
end Go.Proofs.YtdfihaabhichdaaGreat
namespace Go.Proofs.YtdfihaabhichdaaGreat
open Go.RowKit
set_option linter.unusedVariables false

def markE (k:Nat):Ev:=⟨(k:Int),⟨(k:Int) + 1,(k:Int) + 1 + 1,(k:Int) + 1 + 1 + 1,(k:Int) + 1 + 1 + 1 + 1,(k:Int) + 1 + 1 + 1 + 1 + 1,(k:Int) + 1 + 1 + 1 + 1 + 1 + 1,floatOfInt .f64 ((k:Int) + 1 + 1 + 1 + 1 + 1 + 1 + 1),markS (k + 8)⟩,(k:Int) + 1 + 1 + 1 + 1 + 1 + 1 + 1 + 1 + 1,(k:Int) + 1 + 1 + 1 + 1 + 1 + 1 + 1 + 1 + 1 + 1,(k:Int) + 1 + 1 + 1 + 1 + 1 + 1 + 1 + 1 + 1 + 1 + 1,(k:Int) + 1 + 1 + 1 + 1 + 1 + 1 + 1 + 1 + 1 + 1 + 1 + 1,(k:Int) + 1 + 1 + 1 + 1 + 1 + 1 + 1 + 1 + 1 + 1 + 1 + 1 + 1⟩
def mark8 (k:Nat):List Value:=[.int .i64 ((k:Int)),.int .i64 ((k:Int) + 1),.int .i64 ((k:Int) + 1 + 1),.int .i64 ((k:Int) + 1 + 1 + 1),.int .i64 ((k:Int) + 1 + 1 + 1 + 1),.int .i64 ((k:Int) + 1 + 1 + 1 + 1 + 1),.int .i64 ((k:Int) + 1 + 1 + 1 + 1 + 1 + 1),.float .f64 (floatOfInt .f64 ((k:Int) + 1 + 1 + 1 + 1 + 1 + 1 + 1))]
def mark6 (k:Nat):List Value:=[.string (markS (k + 8)),.int .i64 ((k:Int) + 1 + 1 + 1 + 1 + 1 + 1 + 1 + 1 + 1),.int .i64 ((k:Int) + 1 + 1 + 1 + 1 + 1 + 1 + 1 + 1 + 1 + 1),.int .i64 ((k:Int) + 1 + 1 + 1 + 1 + 1 + 1 + 1 + 1 + 1 + 1 + 1),.int .i64 ((k:Int) + 1 + 1 + 1 + 1 + 1 + 1 + 1 + 1 + 1 + 1 + 1 + 1),.int .i64 ((k:Int) + 1 + 1 + 1 + 1 + 1 + 1 + 1 + 1 + 1 + 1 + 1 + 1 + 1)]
def zby (k n:Nat):List Ev:=(List.range n).map fun i=>markE (k + 14 * i)
theorem zbe (k n:Nat):(zby k n).length = n:=by simp [zby]
theorem marksE_more (k n:Nat):zby k (n + 1) = zby k n ++ [markE (k + 14 * n)]:=by simp [zby,List.range_succ]
theorem marksE_get {k n i:Nat} (h:i < n):(zby k n)[i]? = some (markE (k + 14 * i)):=by simp [zby,h]
theorem zaV {w:World} {b o n:Nat} (h:w.there b o n) (j:Nat) (hj:j < n):∃ v,w.cell? ⟨b,o + j,none⟩ = some v∧w.frozen? ⟨b,o + j,none⟩ = false:=zaW h j hj
section
variable {α:Type} {f:α→List Value} {sz:Nat}
theorem mark_stepL {n g C:Nat} {w wr W2:World} {done:List α} (x:α) (a z:List Value) (hx:f x = a ++ z) (h:MarkR f sz n g w wr done) (hn:done.length < n) (hf:∀ c,(f c).length = sz)
  (hb:Below C (wr.setCells g (done.length * sz) a) W2) (hC:wr.heap.size ≤ C):MarkR f sz n g w (W2.setCells g (done.length * sz + a.length) z) (done ++ [x]):=by
 obtain ⟨h1,h2,h3,h4,h5⟩:=h
 have hsz:a.length + z.length = sz:=by rw [← hf x,hx]; simp
 have hle:done.length * sz + sz ≤ n * sz:=by
  have:=Nat.mul_le_mul_right sz (show done.length + 1 ≤ n by omega)
  rw [Nat.add_mul] at this; omega
 have hlt:g < C:=by omega
 have t1:(wr.setCells g (done.length * sz) a).there g 0 (n * sz):=World.there_setCells h2 _ _ _
 have t2:=zf t1 hb hlt
 have ra:W2.rangeAt g (done.length * sz) a:=zb (World.rangeAt_setCells_same _ _ _ _ (zaK h2 (by omega))) hb hlt
 refine ⟨fun i c hc=>?_,World.there_setCells t2 _ _ _,?_,by simp; omega,?_⟩
 ·by_cases hi:i < done.length
  ·rw [List.getElem?_append_left hi] at hc
   have hi':=Nat.mul_le_mul_right sz (show i + 1 ≤ done.length by omega)
   rw [Nat.add_mul] at hi'
   refine World.rangeAt_setCells_apart (zb (World.rangeAt_setCells_apart (h1 i c hc) _ _ _ (.inr (.inl ?_))) hb hlt) _ _ _ (.inr (.inl ?_))
   ·rw [hf c]; omega
   ·rw [hf c]; omega
  ·have hlen:i < (done ++ [x]).length:=(List.getElem?_eq_some_iff.1 hc).1
   have hi':i = done.length:=by simp at hlen; omega
   subst hi'
   simp only [List.getElem?_append_right (Nat.le_refl _),Nat.sub_self,List.getElem?_cons_zero,Option.some.injEq] at hc
   subst hc
   rw [Nat.zero_add,hx]
   exact range_append (World.rangeAt_setCells_apart ra _ _ _ (.inr (.inl (by omega)))) (World.rangeAt_setCells_same _ _ _ _ (zaK t2 (by omega)))
 ·exact zbx g _ _ _ (gr_trans (zbx g _ _ _ h3) (zac hb (by rw [zB]; exact hC)))
 ·rw [zB]
  have:=hb.size
  rw [zB] at this
  omega
end

set_option maxRecDepth 100000 in
set_option maxHeartbeats 1600000 in
theorem zcy (v:Value) (len k:Nat) (w:World) (hl:len ≤ 2097152) (hk0:0 < k) (hk1:k ≤ 1000000000) (hr:RdR Ev.vs 14 w v (zby k len)) :
  Calls Tryz.prog 17 #[v,.int .i64 k] w fun e w'=>e = .returned (.int .i64 ((k + 14 * len:Nat):Int))∧Below w.heap.size w w':=by
 obtain ⟨a,cap,rfl,_,hc⟩:=hr
 rw [zbe]
 have hcell:∀ (m:Nat),m < len→∃ b off,a = some ⟨b,off,none⟩∧b < w.heap.size∧w.rangeAt b (off + m * 14) (markE (k + 14 * m)).vs:=by
  intro m hm
  have hg:=marksE_get (k:=k) hm
  obtain ⟨b,off,h1,h2,h3⟩:=hc (by intro h; rw [h] at hg; simp at hg)
  exact ⟨b,off,h1,h2,h3 m _ hg⟩
 have HC:=hide hcell
 clear hcell hc
 go_enter Tryz.func17,Tryz.ntmps17
 go_wp2_with fail
 go_loopw [1,5] (fun kv i wr=>∃ m kk:Nat,m ≤ len∧i = .int .i64 m∧kv = .int .i64 kk∧Hid (kk = k + 14 * m)∧Below w.heap.size w wr) (fun _ i _=>len - (intOf i).toNat)
 case atStart=>exact ⟨0,k,Nat.zero_le _,rfl,rfl,rfl,Below.refl _ _⟩
 case round =>
  obtain ⟨m,kk,hm,rfl,rfl,hkk,hbel⟩:=hrel
  have HB:=hide hbel
  have hkb:(kk:Int) ≤ 1030000000:=by have:=za hkk; omega
  clear hbel
  by_cases hlt:m < len
  ·obtain ⟨b,off,rfl,hb,hcl⟩:=za HC m hlt
   rw [← za hkk] at hcl
   have hbw:=Nat.lt_of_lt_of_le hb (za HB).size
   have HBW:=hide hbw
   have hclr:=zb hcl (za HB) hb
   have HCR:=hide hclr
   obtain ⟨g0,g1,g2,g3,g4,g5,g6,g7,g8,-⟩:=zaP hclr
   simp only [markE] at g0 g1 g2 g3 g4 g5 g6 g7 g8
   have ho:=ofInt_order ((kk:Int) + 1 + 1 + 1 + 1 + 1 + 1 + 1)
   have ho':(FloatKind.f64.format.order (floatOfInt .f64 ((kk:Int) + 1 + 1 + 1 + 1 + 1 + 1 + 1)) (floatOfInt .f64 ((kk:Int) + 1 + 1 + 1 + 1 + 1 + 1 + 1)) != some Ordering.eq) = false:=by rw [ho]; rfl
   have hlt':(m:Int) < len:=by omega
   clear hcl ho hb hclr hbw
   go_wp2_with fail
   go_region_with (go_at_call 43; refine (zbT _ (kk + 8) _ (by omega) (by omega) (by omega)).mono ?_; rintro e W2 ⟨rfl,hb2⟩; have hc2:=zb (za HCR) ((Below.refl _ _).drew.trans hb2) (za HBW); have c8:=(zaP hc2).2.2.2.2.2.2.2.2.1; have c9:=(zaP hc2).2.2.2.2.2.2.2.2.2.1; have c10:=(zaP hc2).2.2.2.2.2.2.2.2.2.2.1; have c11:=(zaP hc2).2.2.2.2.2.2.2.2.2.2.2.1; have c12:=(zaP hc2).2.2.2.2.2.2.2.2.2.2.2.2.1; have c13:=(zaP hc2).2.2.2.2.2.2.2.2.2.2.2.2.2; simp only [markE] at c8 c9 c10 c11 c12 c13; have HB2:=hide ((za HB).drew.trans (hb2.mono (za HB).drew.size)); clear hb2 hc2)
   all_goals go_wp2_with fail
   all_goals
    exact ⟨⟨m + 1,kk + 14,by omega,by go_num,congrArg (Value.int .i64) (by omega),by have:=za hkk; show kk + 14 = _; omega,za HB2⟩,by simp [intOf]; omega⟩
  ·go_wp2_with fail
   go_ret
   obtain rfl:m = len:=by omega
   have h:=za hkk
   subst h
   exact ⟨rfl,za HB⟩
set_option maxRecDepth 100000 in
set_option maxHeartbeats 1600000 in
theorem markEventS_any (g len cap k:Nat) (w:World) (hl:len ≤ 2097152) (hk0:0 < k) (hk1:k ≤ 1000000000) (hg:g < w.heap.size) (ht:w.there g 0 (len * 14)) :
  Calls Tryz.prog 15 #[.slice (some ⟨g,0,none⟩) len cap,.int .i64 k] w fun e w'=>e = .returned (.int .i64 ((k + 14 * len:Nat):Int))∧MarkR Ev.vs 14 len g w w' (zby k len):=by
 have HM:Hid (MarkR Ev.vs 14 len g w w (zby k 0)):=⟨by simp [zby],ht,World.grownBy.refl _ _,by simp [zby],hg⟩
 have hsf:=sfl
 clear ht
 go_enter Tryz.func15,Tryz.ntmps15
 go_wp2_with fail
 go_loopw [1,5] (fun kv i wr=>∃ m kk:Nat,m ≤ len∧i = .int .i64 m∧kv = .int .i64 kk∧Hid (kk = k + 14 * m)∧MarkR Ev.vs 14 len g w wr (zby k m)) (fun _ i _=>len - (intOf i).toNat)
 case atStart=>exact ⟨0,k,Nat.zero_le _,rfl,rfl,rfl,za HM⟩
 case round =>
  obtain ⟨m,kk,hm,rfl,rfl,hkk,hmr⟩:=hrel
  have HR:=hide hmr
  have hkb:(kk:Int) ≤ 1030000000:=by have:=za hkk; omega
  clear hmr HM
  by_cases hlt:m < len
  ·have ht8:=zaK (i:=m * 14) (m:=14) (za HR).2.1 (by omega)
   obtain ⟨x0,y0,z0⟩:=zaV ht8 0 (by omega)
   obtain ⟨x1,y1,z1⟩:=zaV ht8 1 (by omega)
   obtain ⟨x2,y2,z2⟩:=zaV ht8 2 (by omega)
   obtain ⟨x3,y3,z3⟩:=zaV ht8 3 (by omega)
   obtain ⟨x4,y4,z4⟩:=zaV ht8 4 (by omega)
   obtain ⟨x5,y5,z5⟩:=zaV ht8 5 (by omega)
   obtain ⟨x6,y6,z6⟩:=zaV ht8 6 (by omega)
   obtain ⟨x7,y7,z7⟩:=zaV ht8 7 (by omega)
   rw [Nat.add_zero] at y0 z0
   have hlt':(m:Int) < len:=by omega
   clear ht8
   go_wp2_with fail
   refine (zbT _ (kk + 8) _ (by omega) (by omega) (by omega)).mono ?_
   rintro e W2 ⟨rfl,hb⟩
   have hb':Below (wr.setCells g (m * 14) (mark8 kk)).heap.size (wr.setCells g (m * 14) (mark8 kk)) W2:=hb
   have T2:=zaK (i:=m * 14) (m:=14) (zf (World.there_setCells (za HR).2.1 g (m * 14) (mark8 kk)) hb' (by rw [zB]; exact (za HR).2.2.2.2)) (by omega)
   obtain ⟨v8,c8,f8⟩:=zaV T2 8 (by omega)
   obtain ⟨v9,c9,f9⟩:=zaV T2 9 (by omega)
   obtain ⟨v10,c10,f10⟩:=zaV T2 10 (by omega)
   obtain ⟨v11,c11,f11⟩:=zaV T2 11 (by omega)
   obtain ⟨v12,c12,f12⟩:=zaV T2 12 (by omega)
   obtain ⟨v13,c13,f13⟩:=zaV T2 13 (by omega)
   have HB:=hide hb'
   clear hb hb' T2 y0 z0 y1 z1 y2 z2 y3 z3 y4 z4 y5 z5 y6 z6 y7 z7
   go_wp2_with fail
   go_roundw
   case rel =>
    refine ⟨m + 1,kk + 14,by omega,by go_num,congrArg (Value.int .i64) (by omega),by have:=za hkk; show kk + 14 = _; omega,?_⟩
    have h:=mark_stepL (markE kk) (mark8 kk) (mark6 kk) rfl (za HR) (by rw [zbe]; exact hlt) Ev.len (by rw [zbe]; exact za HB) (by rw [zB]; exact Nat.le_refl _)
    rw [zbe,za hkk,← marksE_more,← za hkk] at h
    exact h
   case measure=>simp [intOf]; omega
  ·go_wp2_with fail
   go_ret
   obtain rfl:m = len:=by omega
   have h:=za hkk
   subst h
   exact ⟨rfl,za HR⟩
theorem markEventS_nil (a:Option Addr) (cap k:Nat) (w:World) :
  Calls Tryz.prog 15 #[.slice a 0 cap,.int .i64 k] w fun e w'=>e = .returned (.int .i64 k)∧w' = w:=by
 go_enter Tryz.func15,Tryz.ntmps15
 go_wp2
 refine wp_loop_rounds 1 ?_
 rw [rounds_succ]
 go_wp2
 go_ret
 exact ⟨rfl,rfl⟩
theorem markE_own {B:Nat} (v:Value) (l:List Ev) (k:Nat) (w:World) (h:OwnR Ev.vs 14 B w v l) (hl:l.length ≤ 2097152) (hk0:0 < k) (hk1:k ≤ 1000000000) :
  Calls Tryz.prog 15 #[v,.int .i64 k] w fun e w'=>e = .returned (.int .i64 ((k + 14 * l.length:Nat):Int))∧OwnR Ev.vs 14 B w' v (zby k l.length) ∧
   ∃ G,w.grownBy w' G∧∀ g,G = some g→v.ownBlock = some g∧B ≤ g∧l ≠ []:=by
 obtain ⟨a,cap,rfl,hlen,h⟩:=h
 by_cases hne:l = []
 ·subst hne
  refine (markEventS_nil a cap k w).mono ?_
  rintro e w' ⟨rfl,rfl⟩
  exact ⟨rfl,⟨a,cap,rfl,by simp [zby],fun h=>absurd rfl h⟩,none,World.grownBy.refl _ _,fun g hg=>by cases hg⟩
 ·obtain ⟨g,rfl,h0,h1,h2,h3⟩:=h hne
  refine (markEventS_any g l.length cap k w hl hk0 hk1 h1 h3).mono ?_
  rintro e w' ⟨rfl,m1,m2,m3,m4,m5⟩
  refine ⟨rfl,⟨_,cap,by rw [zbe],by rw [zbe]; exact hlen,fun _=>⟨g,rfl,h0,m5,m1,by rw [zbe]; exact m2⟩⟩,some g,m3,fun g' hg=>?_⟩
  obtain rfl:=Option.some.inj hg
  exact ⟨rfl,h0,hne⟩
end Go.Proofs.YtdfihaabhichdaaGreat
