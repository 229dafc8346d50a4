/-
  StepBook by the program: proved by walking the function.
-/
import Derived.Test.YtdfihaabhichdaaGreatSj08
import Derived.Test.YtdfihaabhichdaaGreatSj25
import Derived.Test.YtdfihaabhichdaaGreatSj33
namespace Go.Proofs.YtdfihaabhichdaaGreat
open Go.RowKit
set_option linter.unusedVariables false

def spN (next:Int) (l:List Od) (c:Cm):Int:=if okS next l = true then stN next l c else 0
def spL (next:Int) (l:List Od) (c:Cm):List Od:=if okS next l = true then stL next l c else []
def spE (next:Int) (l:List Od) (c:Cm):List Ev:=if okS next l = true then stE next l c else []
theorem box3 (w:World) (bl cl rl:List Value) (T1 T2 T3:TypeId):(((w.alloc (Obj.cells bl.toArray T1)).alloc (Obj.cells cl.toArray T2)).alloc (Obj.cells rl.toArray T3)).heap.size = w.heap.size + 3∧World.rangeAt (((w.alloc (Obj.cells bl.toArray T1)).alloc (Obj.cells cl.toArray T2)).alloc (Obj.cells rl.toArray T3)) w.heap.size 0 bl∧World.rangeAt (((w.alloc (Obj.cells bl.toArray T1)).alloc (Obj.cells cl.toArray T2)).alloc (Obj.cells rl.toArray T3)) (w.heap.size + 1) 0 cl∧World.rangeAt (((w.alloc (Obj.cells bl.toArray T1)).alloc (Obj.cells cl.toArray T2)).alloc (Obj.cells rl.toArray T3)) (w.heap.size + 1 + 1) 0 rl∧World.there (((w.alloc (Obj.cells bl.toArray T1)).alloc (Obj.cells cl.toArray T2)).alloc (Obj.cells rl.toArray T3)) (w.heap.size + 1 + 1) 0 rl.length∧Below w.heap.size w (((w.alloc (Obj.cells bl.toArray T1)).alloc (Obj.cells cl.toArray T2)).alloc (Obj.cells rl.toArray T3)):=by
 have hs1:(w.alloc (Obj.cells bl.toArray T1)).heap.size = w.heap.size + 1:=ze _ _
 have hs2:((w.alloc (Obj.cells bl.toArray T1)).alloc (Obj.cells cl.toArray T2)).heap.size = w.heap.size + 1 + 1:=by rw [ze,hs1]
 have r1:=zh w bl T1
 have r2:=zh (w.alloc (Obj.cells bl.toArray T1)) cl T2
 have r3:=zh ((w.alloc (Obj.cells bl.toArray T1)).alloc (Obj.cells cl.toArray T2)) rl T3
 have t3:=zI ((w.alloc (Obj.cells bl.toArray T1)).alloc (Obj.cells cl.toArray T2)) rl T3
 have b1:Below w.heap.size w (w.alloc (Obj.cells bl.toArray T1)):=(Below.refl _ _).alloc (Nat.le_refl _) _
 have b2:Below (w.alloc (Obj.cells bl.toArray T1)).heap.size (w.alloc (Obj.cells bl.toArray T1)) ((w.alloc (Obj.cells bl.toArray T1)).alloc (Obj.cells cl.toArray T2)):=(Below.refl _ _).alloc (Nat.le_refl _) _
 have b3:Below ((w.alloc (Obj.cells bl.toArray T1)).alloc (Obj.cells cl.toArray T2)).heap.size ((w.alloc (Obj.cells bl.toArray T1)).alloc (Obj.cells cl.toArray T2)) (((w.alloc (Obj.cells bl.toArray T1)).alloc (Obj.cells cl.toArray T2)).alloc (Obj.cells rl.toArray T3)):=(Below.refl _ _).alloc (Nat.le_refl _) _
 rw [hs1] at r2
 rw [hs2] at r3 t3
 refine ⟨by rw [ze,hs2],zb (zb r1 b2 (by omega)) b3 (by omega),zb r2 b3 (by omega),r3,t3,b1.trans ((b2.trans (b3.mono b2.size)).mono b1.size)⟩
def CSB (mb gb gc nL nE cv cg:Nat) (av ag:Option Addr) (tN:Int) (W:World):Nat→Value→Prop
 | 0,v=>v = .pointer (some ⟨mb,0,none⟩)
 | 1,v=>v = .pointer (some ⟨mb,1,none⟩)
 | 2,v=>v = .agg #[.int .i64 tN,.slice av nL cv]
 | 3,v=>v = .pointer (some ⟨mb,0,none⟩)
 | 4,v=>v = .pointer (some ⟨mb,0,none⟩)
 | 5,v=>v = .slice (some ⟨gb,0,none⟩) 1 gc
 | 6,v=>v = .pointer (some ⟨gb,0,none⟩)
 | 7,v=>v = .slice ag nE cg
 | 9,v=>v = .slice ag nE cg
 | 10,v=>v = .int .i64 0
 | _,_=>True
theorem csb_mono {R mb gb gc nL nE cv cg:Nat} {av ag:Option Addr} {tN:Int}:∀ W W' j v,KB R W W'→CSB mb gb gc nL nE cv cg av ag tN W j v→CSB mb gb gc nL nE cv cg av ag tN W' j v:=fun _ _ _ _ _ h=>h
theorem there_blk {W W':World} {b o n:Nat} (h:W.there b o n) (hb:W'.heap[b]? = W.heap[b]?):W'.there b o n:=fun j hj=>by
 rw [World.cell?_of_block (a:=⟨b,o + j,none⟩) hb,World.frozen?_of_block (a:=⟨b,o + j,none⟩) hb]; exact h j hj
theorem gRow_one {W:World} {B:Nat} {gv g:Value} (h:GRow W B gv [g]):∃ gb gc,gv = .slice (some ⟨gb,0,none⟩) 1 gc∧W.cell? ⟨gb,0,none⟩ = some g∧B ≤ gb:=by
 rcases h.2 with ⟨_,h0⟩ | ⟨g',cap,cur,rfl,hb,hgg,h4,h5,h6,h7⟩
 ·cases h0
 ·refine ⟨g',cap,rfl,?_,hb⟩
  rw [cell_of_row W g' 0 cur _ (0,0) hgg]
  have:cur.toList[0]? = some g:=by
   have:=congrArg (fun l=>l[0]?) h7
   simpa using this
  simpa using this
set_option maxRecDepth 100000 in
set_option maxHeartbeats 6400000 in
theorem implStepBook_any (next:Int) (vb:Value) (l:List Od) (c:Cm) (w:World) (hr:RdR Od.vs 6 w vb l) (hs:SlOk vb) (hgt:∀ o ∈ l,o.tag.size ≤ maxLen) (ht:c.g.size ≤ maxLen) :
  Calls Tryz.prog 11 #[.agg #[.int .i64 next,vb],cmV c] w fun e w'=>∃ vq vg,e = .returned (.tuple #[.agg #[.int .i64 (spN next l c),vq],vg,.int .i64 (reaC next l)])∧ORow w' w.heap.size vq (spL next l c)∧ERow w' w.heap.size vg (spE next l c)∧Below w.heap.size w w':=by
 have HR:=hide hr
 have HSL:=hide hs
 have HGT:=hide hgt
 have HTG:=hide ht
 obtain ⟨a,cap,rfl,hlen,hc⟩:=hr
 clear hc hs hgt ht hlen
 have HDO:=hide (fun (hok:okS next l = true) (mb B Bo:Nat) (vq:Value) (W:World) (h:EnS mb B Bo W (.slice none 0 0) [] [] next vq l ⟨0,0,0,0,0,0,0,0⟩ (.slice none 0 0) [])=>doE_any c W h (zbh hok).1 (zbh hok).2.1 (zbh hok).2.2 (za HTG) (by simp))
 have HSN:Hid (spN next l c = if okS next l = true then stN next l c else 0):=rfl
 have HSL2:Hid (spL next l c = if okS next l = true then stL next l c else []):=rfl
 have HSE:Hid (spE next l c = if okS next l = true then stE next l c else []):=rfl
 have HSC:Hid (reaC next l = if okS next l = true then 0 else 1):=rfl
 obtain ⟨kk,s,ty,li,qt,ii,pr,tg⟩:=c
 generalize spN next l ⟨kk,s,ty,li,qt,ii,pr,tg⟩ = sN at HSN ⊢
 generalize spL next l ⟨kk,s,ty,li,qt,ii,pr,tg⟩ = sL at HSL2 ⊢
 generalize spE next l ⟨kk,s,ty,li,qt,ii,pr,tg⟩ = sE at HSE ⊢
 generalize reaC next l = sC at HSC ⊢
 generalize stN next l ⟨kk,s,ty,li,qt,ii,pr,tg⟩ = tN at HSN HDO
 generalize stL next l ⟨kk,s,ty,li,qt,ii,pr,tg⟩ = tL at HSL2 HDO
 generalize stE next l ⟨kk,s,ty,li,qt,ii,pr,tg⟩ = tE at HSE HDO
 unfold cmV at HDO ⊢
 simp only at HDO HTG ⊢
 have HB:=hide (box3 w [.int .i64 next,.slice a l.length cap] [.int .i64 kk,.int .i64 s,.int .i64 ty,.int .i64 li,.int .i64 qt,.int .i64 ii,.float .f64 pr,.string tg] [.int .i64 0,.slice none 0 0] 32 37 32)
 go_enter Tryz.func11,Tryz.ntmps11
 refine wp_seq_k fun K hK=>?_
 have HK1:=hide hK
 clear hK
 go_wp2_with fail
 refine za HK1 _ _ ?_
 clear HK1
 change Hid ((((w.alloc (Obj.cells #[.int .i64 next,.slice a l.length cap] 32)).alloc (Obj.cells #[.int .i64 kk,.int .i64 s,.int .i64 ty,.int .i64 li,.int .i64 qt,.int .i64 ii,.float .f64 pr,.string tg] 37)).alloc (Obj.cells #[.int .i64 0,.slice none 0 0] 32)).heap.size = w.heap.size + 3∧World.rangeAt (((w.alloc (Obj.cells #[.int .i64 next,.slice a l.length cap] 32)).alloc (Obj.cells #[.int .i64 kk,.int .i64 s,.int .i64 ty,.int .i64 li,.int .i64 qt,.int .i64 ii,.float .f64 pr,.string tg] 37)).alloc (Obj.cells #[.int .i64 0,.slice none 0 0] 32)) w.heap.size 0 [.int .i64 next,.slice a l.length cap]∧World.rangeAt (((w.alloc (Obj.cells #[.int .i64 next,.slice a l.length cap] 32)).alloc (Obj.cells #[.int .i64 kk,.int .i64 s,.int .i64 ty,.int .i64 li,.int .i64 qt,.int .i64 ii,.float .f64 pr,.string tg] 37)).alloc (Obj.cells #[.int .i64 0,.slice none 0 0] 32)) (w.heap.size + 1) 0 [.int .i64 kk,.int .i64 s,.int .i64 ty,.int .i64 li,.int .i64 qt,.int .i64 ii,.float .f64 pr,.string tg]∧World.rangeAt (((w.alloc (Obj.cells #[.int .i64 next,.slice a l.length cap] 32)).alloc (Obj.cells #[.int .i64 kk,.int .i64 s,.int .i64 ty,.int .i64 li,.int .i64 qt,.int .i64 ii,.float .f64 pr,.string tg] 37)).alloc (Obj.cells #[.int .i64 0,.slice none 0 0] 32)) (w.heap.size + 1 + 1) 0 [.int .i64 0,.slice none 0 0]∧World.there (((w.alloc (Obj.cells #[.int .i64 next,.slice a l.length cap] 32)).alloc (Obj.cells #[.int .i64 kk,.int .i64 s,.int .i64 ty,.int .i64 li,.int .i64 qt,.int .i64 ii,.float .f64 pr,.string tg] 37)).alloc (Obj.cells #[.int .i64 0,.slice none 0 0] 32)) (w.heap.size + 1 + 1) 0 2∧Below w.heap.size w (((w.alloc (Obj.cells #[.int .i64 next,.slice a l.length cap] 32)).alloc (Obj.cells #[.int .i64 kk,.int .i64 s,.int .i64 ty,.int .i64 li,.int .i64 qt,.int .i64 ii,.float .f64 pr,.string tg] 37)).alloc (Obj.cells #[.int .i64 0,.slice none 0 0] 32))) at HB
 generalize (((w.alloc (Obj.cells #[.int .i64 next,.slice a l.length cap] 32)).alloc (Obj.cells #[.int .i64 kk,.int .i64 s,.int .i64 ty,.int .i64 li,.int .i64 qt,.int .i64 ii,.float .f64 pr,.string tg] 37)).alloc (Obj.cells #[.int .i64 0,.slice none 0 0] 32)) = X at HB ⊢
 have HCELL:Hid (∀ W:World,Below X.heap.size X W→W.cell? ⟨w.heap.size,0,none⟩ = some (.int .i64 next)∧W.cell? ⟨w.heap.size,1,none⟩ = some (.slice a l.length cap)∧W.cell? ⟨w.heap.size + 1,0,none⟩ = some (.int .i64 kk)∧W.cell? ⟨w.heap.size + 1,1,none⟩ = some (.int .i64 s)∧W.cell? ⟨w.heap.size + 1,2,none⟩ = some (.int .i64 ty)∧W.cell? ⟨w.heap.size + 1,3,none⟩ = some (.int .i64 li)∧W.cell? ⟨w.heap.size + 1,4,none⟩ = some (.int .i64 qt)∧W.cell? ⟨w.heap.size + 1,5,none⟩ = some (.int .i64 ii)∧W.cell? ⟨w.heap.size + 1,6,none⟩ = some (.float .f64 pr)∧W.cell? ⟨w.heap.size + 1,7,none⟩ = some (.string tg)):=fun W hW =>
  have p:=zb (za HB).2.1 hW (by have:=(za HB).1; omega)
  have q:=zb (za HB).2.2.1 hW (by have:=(za HB).1; omega)
  ⟨p 0 _ rfl,p 1 _ rfl,q 0 _ rfl,q 1 _ rfl,q 2 _ rfl,q 3 _ rfl,q 4 _ rfl,q 5 _ rfl,q 6 _ rfl,q 7 _ rfl⟩
 obtain ⟨z0,z1,y0,y1,y2,y3,y4,y5,y6,y7⟩:=za HCELL X (Below.refl _ _)
 refine wp_seq_k fun K hK=>?_
 have HK1:=hide hK
 clear hK
 go_wp2_with fail
 refine (implBookOK_any next _ l X (zj (za HR) (za HB).2.2.2.2.2 (Nat.le_refl _)) (za HGT)).mono ?_
 rw [okI_eq]
 rintro e w3 ⟨rfl,hb3⟩
 have HB3:=hide hb3
 clear hb3 z0 z1 y0 y1 y2 y3 y4 y5 y6 y7
 have hRX:w.heap.size + 1 + 1 < X.heap.size:=by have:=(za HB).1; omega
 cases hok:okS next l
 ·have HK:Hid (sN = 0∧sL = []∧sE = []∧sC = 1):=⟨by rw [za HSN,hok]; rfl,by rw [za HSL2,hok]; rfl,by rw [za HSE,hok]; rfl,by rw [za HSC,hok]; rfl⟩
  have HT3:=hide (zf (za HB).2.2.2.2.1 (za HB3) hRX)
  have HR3:=hide (zb (za HB).2.2.2.1 (za HB3) hRX)
  have x0:w3.cell? ⟨w.heap.size + 1 + 1,0,none⟩ = some (.int .i64 0):=za HR3 0 _ rfl
  have x1:w3.cell? ⟨w.heap.size + 1 + 1,1,none⟩ = some (.slice none 0 0):=za HR3 1 _ rfl
  have q0:w3.frozen? ⟨w.heap.size + 1 + 1,0,none⟩ = false:=(za HT3 0 (by omega)).2
  have q1:w3.frozen? ⟨w.heap.size + 1 + 1,1,none⟩ = false:=(za HT3 1 (by omega)).2
  clear hok HSN HSL2 HSE HSC HDO
  have HW:Hid (Below w.heap.size w ((w3.setCell ⟨w.heap.size + 1 + 1,0,none⟩ (.int .i64 0)).setCell ⟨w.heap.size + 1 + 1,1,none⟩ (.slice none 0 0))):=(((za HB).2.2.2.2.2.trans ((za HB3).mono (za HB).2.2.2.2.2.size)).setCell (p:=⟨w.heap.size + 1 + 1,0,none⟩) (show w.heap.size ≤ w.heap.size + 1 + 1 by omega) _).setCell (p:=⟨w.heap.size + 1 + 1,1,none⟩) (show w.heap.size ≤ w.heap.size + 1 + 1 by omega) _
  go_wp2_with fail
  have d0:((w3.setCell ⟨w.heap.size + 1 + 1,0,none⟩ (.int .i64 0)).setCell ⟨w.heap.size + 1 + 1,1,none⟩ (.slice none 0 0)).cell? ⟨w.heap.size + 1 + 1,0,none⟩ = some (.int .i64 0):=(World.cell?_setCell_other _ _ _ _ (zS (by decide))).trans (World.cell?_setCell_same _ _ _ x0)
  have d1:((w3.setCell ⟨w.heap.size + 1 + 1,0,none⟩ (.int .i64 0)).setCell ⟨w.heap.size + 1 + 1,1,none⟩ (.slice none 0 0)).cell? ⟨w.heap.size + 1 + 1,1,none⟩ = some (.slice none 0 0):=World.cell?_setCell_same _ _ _ ((World.cell?_setCell_other _ _ _ _ (zS (by decide))).trans x1)
  refine bodyPost_ret (by simp [results,Tryz.results11,go_sem,d0,d1]; try rfl) rfl ?_
  obtain ⟨rfl,rfl,rfl,rfl⟩:=za HK
  exact ⟨_,_,rfl,World.ownsRow_nil _ _ _ _,World.ownsRow_nil _ _ _ _,za HW⟩
 have HK:Hid (sN = tN∧sL = tL∧sE = tE∧sC = 0):=⟨by rw [za HSN,if_pos hok],by rw [za HSL2,if_pos hok],by rw [za HSE,if_pos hok],by rw [za HSC,if_pos hok]⟩
 have HDO1:=hide (za HDO hok)
 have hl20:=(zbh hok).1.len
 clear hok HSN HSL2 HSE HSC HDO
 obtain ⟨z0,z1,y0,y1,y2,y3,y4,y5,y6,y7⟩:=za HCELL w3 (za HB3)
 go_wp2_with fail
 refine za HK1 _ _ ?_
 clear HK1
 refine wp_seq_k fun K hK=>?_
 have HK1:=hide hK
 clear hK
 go_wp2_with fail
 refine (copyBook_any next _ l w3 (zj (za HR) ((za HB).2.2.2.2.2.trans ((za HB3).mono (za HB).2.2.2.2.2.size)) (Nat.le_refl _)) (za HSL) (by omega)).mono ?_
 rintro e w4 ⟨v4,rfl,ho4,hb4⟩
 obtain ⟨a4,c4,rfl⟩:=zV ho4
 have HB4:=hide ((za HB3).trans (hb4.mono (za HB3).size))
 have hbA:Below w4.heap.size w4 (w4.alloc (Obj.cells #[.slice none 0 0,.int .i64 next,.slice a4 l.length c4,.int .i64 0,.int .i64 0,.int .i64 0,.int .i64 0,.int .i64 0,.int .i64 0,.int .i64 0,.int .i64 0,.slice none 0 0] 75)):=(Below.refl _ _).alloc (Nat.le_refl _) _
 have HEN:Hid (EnS w4.heap.size w3.heap.size (w4.alloc (Obj.cells #[.slice none 0 0,.int .i64 next,.slice a4 l.length c4,.int .i64 0,.int .i64 0,.int .i64 0,.int .i64 0,.int .i64 0,.int .i64 0,.int .i64 0,.int .i64 0,.slice none 0 0] 75)).heap.size (w4.alloc (Obj.cells #[.slice none 0 0,.int .i64 next,.slice a4 l.length c4,.int .i64 0,.int .i64 0,.int .i64 0,.int .i64 0,.int .i64 0,.int .i64 0,.int .i64 0,.int .i64 0,.slice none 0 0] 75)) (.slice none 0 0) [] [] next (.slice a4 l.length c4) l ⟨0,0,0,0,0,0,0,0⟩ (.slice none 0 0) []):=⟨zh w4 [.slice none 0 0,.int .i64 next,.slice a4 l.length c4,.int .i64 0,.int .i64 0,.int .i64 0,.int .i64 0,.int .i64 0,.int .i64 0,.int .i64 0,.int .i64 0,.slice none 0 0] _,zI w4 [.slice none 0 0,.int .i64 next,.slice a4 l.length c4,.int .i64 0,.int .i64 0,.int .i64 0,.int .i64 0,.int .i64 0,.int .i64 0,.int .i64 0,.int .i64 0,.slice none 0 0] _,World.ownsRow_nil _ _ _ _,rfl,fun i g es hg=>by simp at hg,⟨fun g hg=>by simp at hg,List.Pairwise.nil⟩,zg ho4 hbA,World.ownsRow_nil _ _ _ _,⟨_,heap_alloc_new w4 _⟩,Nat.le_trans hb4.size hbA.size,Nat.le_refl _⟩
 have HBA:=hide ((za HB4).trans (hbA.mono (za HB4).size))
 have hmb:w3.heap.size ≤ w4.heap.size:=hb4.size
 clear hbA hb4 ho4 z0 z1 y0 y1 y2 y3 y4 y5 y6 y7
 go_wp2_with fail
 refine za HK1 _ _ ?_
 clear HK1
 generalize (w4.alloc (Obj.cells #[.slice none 0 0,.int .i64 next,.slice a4 l.length c4,.int .i64 0,.int .i64 0,.int .i64 0,.int .i64 0,.int .i64 0,.int .i64 0,.int .i64 0,.int .i64 0,.slice none 0 0] 75)) = Y at HEN HBA ⊢
 obtain ⟨z0,z1,y0,y1,y2,y3,y4,y5,y6,y7⟩:=za HCELL Y (za HBA)
 go_wp2_with fail
 refine (za HDO1 _ _ _ _ Y (za HEN)).mono ?_
 rintro e w5 ⟨rfl,⟨Bo5,gv5,gs5,vq5,hE5⟩,hk5⟩
 clear z0 z1 y0 y1 y2 y3 y4 y5 y6 y7
 obtain ⟨hg5l,hgg⟩:gs5.length = 1∧True:=⟨by have:=hE5.glen; simpa using this,trivial⟩
 obtain ⟨g0,rfl⟩:=List.length_eq_one_iff.1 hg5l
 obtain ⟨av,cv,hv⟩:=zV hE5.orow
 subst hv
 obtain ⟨ag,cg,hgv⟩:=zV (hE5.geach 0 g0 tE rfl rfl)
 subst hgv
 obtain ⟨gb,gc,hgv5,hgb⟩:=gRow_one hE5.grow
 subst hgv5
 have HE5:=hide hE5
 have hR5:w.heap.size + 1 + 1 < Y.heap.size:=Nat.lt_of_lt_of_le hRX (za HBA).size
 have hR3:w.heap.size + 1 + 1 < w3.heap.size:=Nat.lt_of_lt_of_le hRX (za HB3).size
 have hTY:=zf (za HB).2.2.2.2.1 (za HBA) hRX
 have HTR:Hid (w5.there (w.heap.size + 1 + 1) 0 2):=there_blk hTY (hk5.block _ hR3 (by omega))
 have HBW:Hid (Below w.heap.size w w5):=by
  have h1:=(za HB).2.2.2.2.2.trans ((za HBA).mono (za HB).2.2.2.2.2.size)
  have h3:w.heap.size ≤ w3.heap.size:=by omega
  exact ⟨hk5.os.trans h1.os,hk5.tape.trans h1.tape,hk5.output.trans h1.output,Nat.le_trans h1.size hk5.size,fun k hk=>(hk5.block k (by omega) (by omega)).trans (h1.block k hk)⟩
 have hR55:w.heap.size + 1 + 1 < w5.heap.size:=Nat.lt_of_lt_of_le hR5 hk5.size
 have hmbR:w4.heap.size ≠ w.heap.size + 1 + 1:=by omega
 have hgbR:gb ≠ w.heap.size + 1 + 1:=by omega
 have hwB:w.heap.size ≤ w3.heap.size:=by omega
 have HM0:Hid (w5.cell? ⟨w4.heap.size,0,none⟩ = some (.slice (some ⟨gb,0,none⟩) 1 gc)):=hE5.cells 0 _ rfl
 have HM1:Hid (w5.cell? ⟨w4.heap.size,1,none⟩ = some (.int .i64 tN)):=hE5.cells 1 _ rfl
 have HM2:Hid (w5.cell? ⟨w4.heap.size,2,none⟩ = some (.slice av tL.length cv)):=hE5.cells 2 _ rfl
 have HG0:Hid (w5.cell? ⟨gb,0,none⟩ = some (.slice ag tE.length cg)):=hgb.1
 clear hE5 hk5 hTY hgb hg5l
 go_wp2_with fail
 refine zi (RXA (fun f=>{ tmps:=#[.agg #[.int .i64 next,.slice a l.length cap],.agg #[.int .i64 kk,.int .i64 s,.int .i64 ty,.int .i64 li,.int .i64 qt,.int .i64 ii,.float .f64 pr,.string tg],.pointer (some ⟨w.heap.size,0,none⟩),.pointer (some ⟨w.heap.size + 1,0,none⟩),.pointer (some ⟨w.heap.size + 1 + 1,0,none⟩),f 9,f 10,.pointer (some ⟨w4.heap.size,0,none⟩),.agg #[.int .i64 next,.slice a l.length cap],.bool true,.bool false,undef,.agg #[.int .i64 next,.slice a l.length cap],.agg #[.int .i64 next,.slice a4 l.length c4],.agg #[.slice none 0 0,.int .i64 next,.slice a4 l.length c4,.int .i64 0,.int .i64 0,.int .i64 0,.int .i64 0,.int .i64 0,.int .i64 0,.int .i64 0,.int .i64 0],.agg #[.slice none 0 0,.int .i64 next,.slice a4 l.length c4,.int .i64 0,.int .i64 0,.int .i64 0,.int .i64 0,.int .i64 0,.int .i64 0,.int .i64 0,.int .i64 0,.slice none 0 0],.agg #[.int .i64 kk,.int .i64 s,.int .i64 ty,.int .i64 li,.int .i64 qt,.int .i64 ii,.float .f64 pr,.string tg],.tuple #[],f 0,f 1,f 2,f 3,f 4,f 5,f 6,f 7],defers:=[] }) (CSB w4.heap.size gb gc tL.length tE.length cv cg av ag tN) (w.heap.size + 1 + 1) 2 8 (fun _=>[.int .i64 tN,.slice av tL.length cv]) w5) (by kernel_rfl) ?_ ?_ ?_
 ·exact ⟨fun j=>if j = 9 then .slice none 0 0 else if j = 10 then .int .i64 0 else undef,rfl,rx_start hR55 (za HTR)⟩
 rotate_left
 ·rintro x A V i op ⟨f,rfl,hR⟩ hcl hx ho hxi hall
  have HRR:=hide hR
  have cellV:∀ (p:Addr) u,w5.cell? p = some u→p.block ≠ w.heap.size + 1 + 1→V.cell? p = some u:=fun p u hu hp=>kb_cell hR.k hu hp
  match i,ho with
  | 0,ho =>
   obtain rfl:=Option.some.inj ho
   clear hall hR hcl cellV
   rw [if_pos (by rfl)]
   unfold Oper.wp
   go_simp
   exact ⟨upd f 0 (.pointer (some ⟨w4.heap.size,0,none⟩)),by simp [upd],zX (za HRR) 0 _ (by decide) (fun _=>rfl) rfl⟩
  | 1,ho =>
   obtain rfl:=Option.some.inj ho
   have g0:f 0 = .pointer (some ⟨w4.heap.size,0,none⟩):=hR.c 0 (hall ⟨0,.data⟩ (by simp) rfl)
   clear hall hR hcl cellV
   rw [if_pos (by rfl)]
   unfold Oper.wp
   go_simp
   exact ⟨upd f 1 (.pointer (some ⟨w4.heap.size,1,none⟩)),by simp [upd,g0],zX (za HRR) 1 _ (by decide) (fun _=>rfl) rfl⟩
  | 2,ho =>
   obtain rfl:=Option.some.inj ho
   have g1:f 1 = .pointer (some ⟨w4.heap.size,1,none⟩):=hR.c 1 (hall ⟨1,.data⟩ (by simp) rfl)
   have z1:=cellV ⟨w4.heap.size,1,none⟩ _ (za HM1) hmbR
   have z2:=cellV ⟨w4.heap.size,2,none⟩ _ (za HM2) hmbR
   clear hall hR hcl cellV
   rw [if_pos (by rfl)]
   unfold Oper.wp
   go_simp
   exact ⟨upd f 2 (.agg #[.int .i64 tN,.slice av tL.length cv]),by simp [upd,g1],zX (za HRR) 2 _ (by decide) (fun _=>rfl) rfl⟩
  | 3,ho =>
   obtain rfl:=Option.some.inj ho
   clear hall hR hcl cellV
   rw [if_pos (by rfl)]
   unfold Oper.wp
   go_simp
   exact ⟨upd f 3 (.pointer (some ⟨w4.heap.size,0,none⟩)),by simp [upd],zX (za HRR) 3 _ (by decide) (fun _=>rfl) rfl⟩
  | 4,ho =>
   obtain rfl:=Option.some.inj ho
   have g3:f 3 = .pointer (some ⟨w4.heap.size,0,none⟩):=hR.c 3 (hall ⟨3,.data⟩ (by simp) rfl)
   clear hall hR hcl cellV
   rw [if_pos (by rfl)]
   unfold Oper.wp
   go_simp
   exact ⟨upd f 4 (.pointer (some ⟨w4.heap.size,0,none⟩)),by simp [upd,g3],zX (za HRR) 4 _ (by decide) (fun _=>rfl) rfl⟩
  | 5,ho =>
   obtain rfl:=Option.some.inj ho
   have g4:f 4 = .pointer (some ⟨w4.heap.size,0,none⟩):=hR.c 4 (hall ⟨4,.data⟩ (by simp) rfl)
   have z0:=cellV ⟨w4.heap.size,0,none⟩ _ (za HM0) hmbR
   clear hall hR hcl cellV
   rw [if_pos (by rfl)]
   unfold Oper.wp
   go_simp
   exact ⟨upd f 5 (.slice (some ⟨gb,0,none⟩) 1 gc),by simp [upd,g4],zX (za HRR) 5 _ (by decide) (fun _=>rfl) rfl⟩
  | 6,ho =>
   obtain rfl:=Option.some.inj ho
   have g5:f 5 = .slice (some ⟨gb,0,none⟩) 1 gc:=hR.c 5 (hall ⟨5,.data⟩ (by simp) rfl)
   clear hall hR hcl cellV
   rw [if_pos (by rfl)]
   unfold Oper.wp
   go_simp
   exact ⟨upd f 6 (.pointer (some ⟨gb,0,none⟩)),by simp [upd,g5],zX (za HRR) 6 _ (by decide) (fun _=>rfl) rfl⟩
  | 7,ho =>
   obtain rfl:=Option.some.inj ho
   have g6:f 6 = .pointer (some ⟨gb,0,none⟩):=hR.c 6 (hall ⟨6,.data⟩ (by simp) rfl)
   have z0:=cellV ⟨gb,0,none⟩ _ (za HG0) hgbR
   clear hall hR hcl cellV
   rw [if_pos (by rfl)]
   unfold Oper.wp
   go_simp
   exact ⟨upd f 7 (.slice ag tE.length cg),by simp [upd,g6],zX (za HRR) 7 _ (by decide) (fun _=>rfl) rfl⟩
  | 8,ho =>
   obtain rfl:=Option.some.inj ho
   have g2:f 2 = .agg #[.int .i64 tN,.slice av tL.length cv]:=hR.c 2 (hall ⟨2,.data⟩ (by simp) rfl)
   obtain ⟨y0,z0,q0⟩:=zd hR.t (j:=0) (by omega)
   obtain ⟨y1,z1,q1⟩:=zd hR.t (j:=1) (by omega)
   clear hall hR hcl cellV
   rw [if_pos (by rfl)]
   unfold Oper.wp
   go_simp
   exact ⟨f,by simp [g2],rx_store csb_mono (za HRR) hxi rfl (fun _ _=>trivial)⟩
  | 9,ho =>
   obtain rfl:=Option.some.inj ho
   have g7:f 7 = .slice ag tE.length cg:=hR.c 7 (hall ⟨7,.data⟩ (by simp) rfl)
   clear hall hR hcl cellV
   rw [if_pos (by rfl)]
   unfold Oper.wp
   go_simp
   exact ⟨upd f 9 (.slice ag tE.length cg),by simp [upd,g7],zX (za HRR) 9 _ (by decide) (fun _=>rfl) rfl⟩
  | 10,ho =>
   obtain rfl:=Option.some.inj ho
   clear hall hR hcl cellV
   rw [if_pos (by rfl)]
   unfold Oper.wp
   go_simp
   exact ⟨upd f 10 (.int .i64 0),by simp [upd],zX (za HRR) 10 _ (by decide) (fun _=>rfl) rfl⟩
  | n + 11,ho=>simp at ho
 ·rintro x A V ⟨f,rfl,hR⟩ hx hrd
  have hallx:=zL hrd hx (by kernel_rfl)
  have e9:f 9 = .slice ag tE.length cg:=hR.c 9 (hallx 9 (by simp))
  have e10:f 10 = .int .i64 0:=hR.c 10 (hallx 10 (by simp))
  have hres:=hR.r (hallx 8 (by simp))
  have HO:Hid (ORow V w.heap.size (.slice av tL.length cv) tL∧ERow V w.heap.size (.slice ag tE.length cg) tE):=⟨zE (zcz (za HE5).orow hR.k hR3) hwB,zE (zcz ((za HE5).geach 0 _ tE rfl rfl) hR.k hR3) hwB⟩
  have HBV:Hid (Below w.heap.size w V):=⟨hR.k.os.trans (za HBW).os,hR.k.tape.trans (za HBW).tape,hR.k.output.trans (za HBW).output,Nat.le_trans (za HBW).size hR.k.size,fun k hk=>(hR.k.block k (Nat.lt_of_lt_of_le hk (za HBW).size) (by omega)).trans ((za HBW).block k hk)⟩
  simp only [e9,e10]
  generalize f 0 = v0
  generalize f 1 = v1
  generalize f 2 = v2
  generalize f 3 = v3
  generalize f 4 = v4
  generalize f 5 = v5
  generalize f 6 = v6
  generalize f 7 = v7
  have d0:V.cell? ⟨w.heap.size + 1 + 1,0,none⟩ = some (.int .i64 tN):=hres 0 _ rfl
  have d1:V.cell? ⟨w.heap.size + 1 + 1,1,none⟩ = some (.slice av tL.length cv):=hres 1 _ rfl
  clear hR hallx hrd hx e9 e10 hres
  go_wp2_with fail
  refine bodyPost_ret (by simp [results,Tryz.results11,go_sem,d0,d1]; try rfl) rfl ?_
  obtain ⟨rfl,rfl,rfl,rfl⟩:=za HK
  exact ⟨_,_,rfl,(za HO).1,(za HO).2,za HBV⟩
end Go.Proofs.YtdfihaabhichdaaGreat
namespace Go.Proofs.YtdfihaabhichdaaGreat
open Go.RowKit
set_option linter.unusedVariables false

def tkS (x:Nat):Int:=if ((FloatKind.f64.format.order x 0 == some Ordering.gt) && ((FloatKind.f64.format.order x 4687829947429945344 == some Ordering.lt) || (FloatKind.f64.format.order x 4687829947429945344 == some Ordering.eq))) = true then tkN x else 0
theorem tkS_ok {x:Nat} (h:tkOk x = true):tkS x = tk x:=by
 unfold tk tkS
 rw [if_pos h]
 unfold tkOk at h
 rw [Bool.and_eq_true] at h
 rw [if_pos h.1]
set_option maxRecDepth 100000 in
set_option maxHeartbeats 1000000 in
theorem l01Ticks_any (x:Nat) (w:World) :
  Calls Tryz.prog 103 #[.float .f64 x] w fun e w'=>e = .returned (.tuple #[.int .i64 (tkS x),.bool (tkOk x)])∧w' = w:=by
 by_cases h0:FloatKind.f64.format.order x 0 = some Ordering.gt
 ·by_cases h1:FloatKind.f64.format.order x 4687829947429945344 = some Ordering.lt ∨ FloatKind.f64.format.order x 4687829947429945344 = some Ordering.eq
  ·obtain ⟨r,n,hmul,hint,hn⟩:=price_four h0 h1
   have hn':(n:Int) < 9007199254740992:=by omega
   have eR:tkR x = r:=by unfold tkR; rw [show FloatKind.f64.format.mul x 4616189618054758400 = some r from hmul]; rfl
   have eN:tkN x = n:=by unfold tkN; rw [eR,show (FloatKind.f64.decode r).toInt .zero = some (n:Int) from hint]; rfl
   have b0:(FloatKind.f64.format.order x 0 == some Ordering.gt) = true:=by rw [h0]; rfl
   have hm:∀ W,(binOp .mul 25 (.float .f64 x) (.float .f64 4616189618054758400)).run Tryz.prog W = .ok (.float .f64 r) W:=fun W=>by
    have:FloatKind.f64.format.mul x 4616189618054758400 = some r:=hmul
    simp [binOp,Op.floatArith,this]
   have hc:∀ W,(convert 25 3 (.float .f64 r)).run Tryz.prog W = .ok (.int .i64 n) W:=fun W=>by
    have h2:(FloatKind.f64.decode r).toInt .zero = some (n:Int):=hint
    have hb:IntKind.i64.min ≤ (n:Int)∧(n:Int) ≤ IntKind.i64.max:=by
     rw [show IntKind.i64.min = -9223372036854775808 by decide,show IntKind.i64.max = 9223372036854775807 by decide]; omega
    simp [convert,run_underlying Tryz.underlying25,run_underlying Tryz.underlying3,Conv.floatToInt,h2,hb.1]
    intro h
    omega
   have h12:((FloatKind.f64.format.order x 4687829947429945344 == some Ordering.lt) || (FloatKind.f64.format.order x 4687829947429945344 == some Ordering.eq)) = true:=by
    rcases h1 with h1 | h1 <;> rw [h1] <;> rfl
   have hok:tkOk x = (FloatKind.f64.format.order (floatOfInt .f64 n) r == some Ordering.eq):=by unfold tkOk; rw [eN,eR,b0,h12]; rfl
   have hS:tkS x = n:=by unfold tkS; rw [b0,h12,eN]; rfl
   clear hmul hint h0 h12
   cases he:(FloatKind.f64.format.order (floatOfInt .f64 n) r == some Ordering.eq)
   all_goals
    have he2:(FloatKind.f64.format.order (floatOfInt .f64 n) r != some Ordering.eq) = !(FloatKind.f64.format.order (floatOfInt .f64 n) r == some Ordering.eq):=rfl
    rw [he] at he2
    rw [he] at hok
   ·have HT:Hid (tkS x = n∧tkOk x = false):=⟨hS,hok⟩
    clear hok eN eR hS
    rcases h1 with h1 | h1
    ·have b1:(FloatKind.f64.format.order x 4687829947429945344 == some Ordering.lt) = true:=by rw [h1]; rfl
     have b2:(FloatKind.f64.format.order x 4687829947429945344 == some Ordering.eq) = false:=by rw [h1]; rfl
     clear h1
     go_enter Tryz.func103,Tryz.ntmps103
     go_wp2
     go_ret2
     exact ⟨by rw [(za HT).1,(za HT).2]; rfl,rfl⟩
    ·have b1:(FloatKind.f64.format.order x 4687829947429945344 == some Ordering.lt) = false:=by rw [h1]; rfl
     have b2:(FloatKind.f64.format.order x 4687829947429945344 == some Ordering.eq) = true:=by rw [h1]; rfl
     clear h1
     go_enter Tryz.func103,Tryz.ntmps103
     go_wp2
     go_ret2
     exact ⟨by rw [(za HT).1,(za HT).2]; rfl,rfl⟩
   ·have HT:Hid (tkS x = n∧tkOk x = true):=⟨hS,hok⟩
    clear hok eN eR hS
    rcases h1 with h1 | h1
    ·have b1:(FloatKind.f64.format.order x 4687829947429945344 == some Ordering.lt) = true:=by rw [h1]; rfl
     have b2:(FloatKind.f64.format.order x 4687829947429945344 == some Ordering.eq) = false:=by rw [h1]; rfl
     clear h1
     go_enter Tryz.func103,Tryz.ntmps103
     go_wp2
     go_ret2
     exact ⟨by rw [(za HT).1,(za HT).2]; rfl,rfl⟩
    ·have b1:(FloatKind.f64.format.order x 4687829947429945344 == some Ordering.lt) = false:=by rw [h1]; rfl
     have b2:(FloatKind.f64.format.order x 4687829947429945344 == some Ordering.eq) = true:=by rw [h1]; rfl
     clear h1
     go_enter Tryz.func103,Tryz.ntmps103
     go_wp2
     go_ret2
     exact ⟨by rw [(za HT).1,(za HT).2]; rfl,rfl⟩
  ·have b0:(FloatKind.f64.format.order x 0 == some Ordering.gt) = true:=by rw [h0]; rfl
   have b1:(FloatKind.f64.format.order x 4687829947429945344 == some Ordering.lt) = false:=by rw [beq_eq_false_iff_ne]; exact fun h=>h1 (.inl h)
   have b2:(FloatKind.f64.format.order x 4687829947429945344 == some Ordering.eq) = false:=by rw [beq_eq_false_iff_ne]; exact fun h=>h1 (.inr h)
   have hok:tkOk x = false:=by unfold tkOk; rw [b0,b1,b2]; rfl
   have HT:Hid (tkS x = 0∧tkOk x = false):=⟨by unfold tkS; rw [b0,b1,b2]; rfl,hok⟩
   clear h0 h1 hok
   go_enter Tryz.func103,Tryz.ntmps103
   go_wp2
   go_ret2
   exact ⟨by rw [(za HT).1,(za HT).2]; rfl,rfl⟩
 ·have b0:(FloatKind.f64.format.order x 0 == some Ordering.gt) = false:=by rw [beq_eq_false_iff_ne]; exact h0
  have hok:tkOk x = false:=by unfold tkOk; rw [b0]; rfl
  have HT:Hid (tkS x = 0∧tkOk x = false):=⟨by unfold tkS; rw [b0]; rfl,hok⟩
  clear h0 hok
  go_enter Tryz.func103,Tryz.ntmps103
  go_wp2
  go_ret2
  exact ⟨by rw [(za HT).1,(za HT).2]; rfl,rfl⟩
end Go.Proofs.YtdfihaabhichdaaGreat
namespace Go.Proofs.YtdfihaabhichdaaGreat
open Go.RowKit
set_option linter.unusedVariables false

set_option maxHeartbeats 400000 in
theorem zx (t:Int) (w:World) :
  Calls Tryz.prog 70 #[.int .i64 t] w fun e w'=>e = .returned (.bool (zaM t))∧w' = w:=by
 by_cases h1:t = 1
 ·subst h1
  go_enter Tryz.func70,Tryz.ntmps70
  go_wp2_with fail
  go_ret
  exact ⟨rfl,rfl⟩
 have b1:(t == 1) = false:=by rw [beq_eq_false_iff_ne]; exact h1
 have HK:Hid (zaM t = (t == 5)):=by
  show _ = _
  by_cases h5:t = 5 <;> simp [zaM,h1,h5]
 clear h1
 go_enter Tryz.func70,Tryz.ntmps70
 go_wp2_with fail
 go_ret
 exact ⟨zl (za HK).symm,rfl⟩
def zbE (sd tk:Int) (o:Od):Bool:=if tk = 0 then true else if sd = 1 then decide (o.ticks ≤ tk) else decide (tk ≤ o.ticks)
set_option maxHeartbeats 400000 in
theorem l04Crosses_any (sd tk:Int) (o:Od) (w:World) :
  Calls Tryz.prog 130 #[.int .i64 sd,.int .i64 tk,.agg #[.int .i64 o.id,.int .i64 o.side,.int .i64 o.ticks,.int .i64 o.left,.int .i64 o.life,.string o.tag]] w fun e w'=>e = .returned (.bool (zbE sd tk o))∧Below w.heap.size w w':=by
 obtain ⟨id,side,ticks,left,life,tag⟩:=o
 simp only
 by_cases h0:tk = 0
 ·subst h0
  go_enter Tryz.func130,Tryz.ntmps130
  go_wp2_with fail
  go_ret
  exact ⟨rfl,by go_grown⟩
 have b0:(tk == 0) = false:=by rw [beq_eq_false_iff_ne]; exact h0
 by_cases h1:sd = 1
 ·subst h1
  have HK:Hid (zbE 1 tk ⟨id,side,ticks,left,life,tag⟩ = decide (ticks ≤ tk)):=by show _ = _; simp [zbE,h0]
  clear h0
  go_enter Tryz.func130,Tryz.ntmps130
  go_wp2_with fail
  go_ret
  exact ⟨zl (za HK).symm,by go_grown⟩
 have b1:(sd == 1) = false:=by rw [beq_eq_false_iff_ne]; exact h1
 have HK:Hid (zbE sd tk ⟨id,side,ticks,left,life,tag⟩ = decide (tk ≤ ticks)):=by show _ = _; simp [zbE,h0,h1]
 clear h0 h1
 go_enter Tryz.func130,Tryz.ntmps130
 go_wp2_with fail
 go_ret
 exact ⟨zl (za HK).symm,by go_grown⟩
set_option maxRecDepth 100000 in
set_option maxHeartbeats 800000 in
theorem zbd (v:Value) (l:List Od) (id:Int) (w:World) (hr:RdR Od.vs 6 w v l) :
  Calls Tryz.prog 65 #[v,.int .i64 id] w fun e w'=>e = .returned (.int .i64 (plc l id))∧Below w.heap.size w w':=by
 obtain ⟨a,cap,rfl,hlen,hc⟩:=hr
 have hcell:∀ (k:Nat) (c:Od),l[k]? = some c→∃ b off,a = some ⟨b,off,none⟩∧b < w.heap.size∧w.rangeAt b (off + k * 6) c.vs:=by
  intro k c hk
  obtain ⟨b,off,h1,h2,h3⟩:=hc (by intro h; rw [h] at hk; simp at hk)
  exact ⟨b,off,h1,h2,h3 k c hk⟩
 have HC:=hide hcell
 clear hcell hc
 go_enter Tryz.func65,Tryz.ntmps65
 go_wp2_with fail
 go_loopw [5] (fun iv wr=>∃ (k:Nat),k ≤ l.length∧iv = .int .i64 k∧Hid (plc l id = plcF id (l.drop k) k)∧Below w.heap.size w wr) (fun iv _=>l.length - (intOf iv).toNat)
 case atStart=>exact ⟨0,Nat.zero_le _,rfl,rfl,Below.refl _ _⟩
 case round =>
  obtain ⟨k,hk,rfl,hpl,hbel⟩:=hrel
  have HB:=hide hbel
  clear hbel
  by_cases hlt:k < l.length
  ·obtain ⟨c,hkc⟩:∃ c,l[k]? = some c:=⟨_,List.getElem?_eq_getElem hlt⟩
   have HP:Hid (plc l id = if c.id = id then (k:Int) else plcF id (l.drop (k + 1)) (k + 1)):=by
    have:=za hpl
    rw [drop_get hkc] at this
    exact this
   obtain ⟨b,off,rfl,hb,hcl⟩:=za HC k c hkc
   obtain ⟨g0,g1,g2,g3,g4,g5⟩:=zy (zb hcl (za HB) hb)
   have hlt':(k:Int) < l.length:=by omega
   clear hkc hcl hb hpl
   by_cases hid:c.id = id
   ·have hb:(c.id == id) = true:=by simpa using hid
    have HK:Hid (plc l id = k):=by have:=za HP; rw [if_pos hid] at this; exact this
    clear hid
    go_wp2_with fail
    go_ret
    exact ⟨zo (za HK).symm,za HB⟩
   ·have hb:(c.id == id) = false:=by simpa using hid
    have HK:Hid (plc l id = plcF id (l.drop (k + 1)) (k + 1)):=by have:=za HP; rw [if_neg hid] at this; exact this
    clear hid
    go_wp2_with fail
    go_roundw
    case rel=>exact ⟨k + 1,by omega,by go_num,za HK,za HB⟩
    case measure=>simp [intOf]; omega
  ·have HK:Hid (plc l id = -1):=by
    have h:=za hpl
    rw [List.drop_of_length_le (by omega)] at h
    exact h
   go_wp2_with fail
   go_ret
   exact ⟨zo (za HK).symm,za HB⟩
end Go.Proofs.YtdfihaabhichdaaGreat
