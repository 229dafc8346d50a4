/-
  The exact law of StepBook, walked: it returns true, and nothing that was there is turned.
-/
import Derived.Test.YtdfihaabhichdaaGreatSj05
import Derived.Test.YtdfihaabhichdaaGreatSj48
namespace Go.Proofs.YtdfihaabhichdaaGreat
open Go.RowKit
set_option linter.unusedVariables false

set_option maxRecDepth 100000 in
set_option maxHeartbeats 12800000 in
theorem exactStep (n:Int) (v:Value) (l:List Od) (c:Cm) (w:World) (hr:RdR Od.vs 6 w v l) (hl:l.length ≤ 1048576) (hg:∀ c ∈ l,c.tag.size ≤ maxLen) (ht:c.g.size ≤ maxLen) :
  Calls Tryz.prog 3 #[.agg #[.int .i64 n,v],.agg #[.int .i64 c.k,.int .i64 c.s,.int .i64 c.t,.int .i64 c.l,.int .i64 c.q,.int .i64 c.i,.float .f64 c.p,.string c.g]] w fun e w'=>e = .returned (.bool true)∧Below w.heap.size w w':=by
 have HR:=hide hr
 have HG:=hide hg
 have HSZ:=hide (fun x W h0 h1=>szCmd_any c x W h0 h1 ht)
 have HTC:=hide (fun W=>toCmd_any c W)
 have HSP:=hide (fun (W:World) ad cp hW=>specStepBook_any n (.slice (some ad) l.length cp) l c W hW (.inr ⟨_,_,_,rfl⟩) hg ht)
 have HIM:=hide (fun (W:World) ad cp hW=>implStepBook_any n (.slice (some ad) l.length cp) l c W hW (.inr ⟨_,_,_,rfl⟩) hg ht)
 obtain ⟨a,cap,rfl,_,hc⟩:=hr
 have HLL:=hide (sp_len (l:=l) (next:=n) (c:=c))
 generalize spN n l c = N at HSP HIM
 generalize spL n l c = L at HSP HIM HLL
 generalize spE n l c = E at HSP HIM HLL
 generalize reaC n l = rc at HSP HIM
 obtain ⟨kk,s,ty,li,qt,ii,pr,tg⟩:=c
 unfold cmV at HSP HIM
 simp only at HSZ HTC HSP HIM ⊢
 clear hg hc ht
 have hs1:(w.alloc (Obj.cells #[.int .i64 n,.slice a l.length cap] 24)).heap.size = w.heap.size + 1:=ze _ _
 have hs2:((w.alloc (Obj.cells #[.int .i64 n,.slice a l.length cap] 24)).alloc (Obj.cells #[.int .i64 kk,.int .i64 s,.int .i64 ty,.int .i64 li,.int .i64 qt,.int .i64 ii,.float .f64 pr,.string tg] 27)).heap.size = w.heap.size + 1 + 1:=by rw [ze,hs1]
 have r1:=zh w [.int .i64 n,.slice a l.length cap] 24
 have r2:=zh (w.alloc (Obj.cells #[.int .i64 n,.slice a l.length cap] 24)) [.int .i64 kk,.int .i64 s,.int .i64 ty,.int .i64 li,.int .i64 qt,.int .i64 ii,.float .f64 pr,.string tg] 27
 rw [hs1] at r2
 have b12:Below (w.heap.size + 1) (w.alloc (Obj.cells #[.int .i64 n,.slice a l.length cap] 24)) ((w.alloc (Obj.cells #[.int .i64 n,.slice a l.length cap] 24)).alloc (Obj.cells #[.int .i64 kk,.int .i64 s,.int .i64 ty,.int .i64 li,.int .i64 qt,.int .i64 ii,.float .f64 pr,.string tg] 27)):=(Below.refl _ _).alloc (by rw [hs1]; omega) _
 have H0:Hid (Below w.heap.size w ((w.alloc (Obj.cells #[.int .i64 n,.slice a l.length cap] 24)).alloc (Obj.cells #[.int .i64 kk,.int .i64 s,.int .i64 ty,.int .i64 li,.int .i64 qt,.int .i64 ii,.float .f64 pr,.string tg] 27))):=((Below.refl _ _).alloc (Nat.le_refl _) _).alloc (by rw [hs1]; omega) _
 have HX:Hid (_∧_):=⟨zb r1 b12 (by omega),r2⟩
 have HLT:Hid (w.heap.size + 1 < ((w.alloc (Obj.cells #[.int .i64 n,.slice a l.length cap] 24)).alloc (Obj.cells #[.int .i64 kk,.int .i64 s,.int .i64 ty,.int .i64 li,.int .i64 qt,.int .i64 ii,.float .f64 pr,.string tg] 27)).heap.size):=by show _ < _; omega
 clear hs1 hs2 r1 r2 b12
 go_enter Tryz.func3,Tryz.ntmps3
 refine wp_seq_k fun K hK=>?_
 have HK1:=hide hK
 clear hK
 go_wp2_with fail
 refine za HK1 _ _ ?_
 clear HK1
 generalize ((w.alloc (Obj.cells #[.int .i64 n,.slice a l.length cap] 24)).alloc (Obj.cells #[.int .i64 kk,.int .i64 s,.int .i64 ty,.int .i64 li,.int .i64 qt,.int .i64 ii,.float .f64 pr,.string tg] 27)) = W1 at H0 HX HLT ⊢
 have HX:Hid (W1.rangeAt w.heap.size 0 [.int .i64 n,.slice a l.length cap]∧W1.rangeAt (w.heap.size + 1) 0 [.int .i64 kk,.int .i64 s,.int .i64 ty,.int .i64 li,.int .i64 qt,.int .i64 ii,.float .f64 pr,.string tg]):=za HX
 have hlt:=za HLT
 have HR1:=hide (zj (za HR) (za H0) (Nat.le_refl _))
 have HCELL:Hid (∀ W:World,Below W1.heap.size W1 W→W.cell? ⟨w.heap.size,0,none⟩ = some (.int .i64 n)∧W.cell? ⟨w.heap.size,1,none⟩ = some (.slice a l.length cap)∧W.cell? ⟨w.heap.size + 1,0,none⟩ = some (.int .i64 kk)∧W.cell? ⟨w.heap.size + 1,1,none⟩ = some (.int .i64 s)∧W.cell? ⟨w.heap.size + 1,2,none⟩ = some (.int .i64 ty)∧W.cell? ⟨w.heap.size + 1,3,none⟩ = some (.int .i64 li)∧W.cell? ⟨w.heap.size + 1,4,none⟩ = some (.int .i64 qt)∧W.cell? ⟨w.heap.size + 1,5,none⟩ = some (.int .i64 ii)∧W.cell? ⟨w.heap.size + 1,6,none⟩ = some (.float .f64 pr)∧W.cell? ⟨w.heap.size + 1,7,none⟩ = some (.string tg)):=fun W hW =>
  have p:=zb (za HX).1 hW (by omega)
  have q:=zb (za HX).2 hW hlt
  ⟨p 0 _ rfl,p 1 _ rfl,q 0 _ rfl,q 1 _ rfl,q 2 _ rfl,q 3 _ rfl,q 4 _ rfl,q 5 _ rfl,q 6 _ rfl,q 7 _ rfl⟩
 obtain ⟨z0,z1,y0,y1,y2,y3,y4,y5,y6,y7⟩:=za HCELL W1 (Below.refl _ _)
 go_wp2_with fail
 refine (szBook_any n _ l W1 (za HR1) hl (za HG)).mono ?_
 rintro e w2 ⟨y,rfl,hy0,hy1,hb⟩
 have B2:=hide hb
 clear hb z0 z1 y0 y1 y2 y3 y4 y5 y6 y7
 obtain ⟨z0,z1,y0,y1,y2,y3,y4,y5,y6,y7⟩:=za HCELL w2 (za B2)
 by_cases hy:y < 0
 ·go_wp2_with fail
  go_ret
  exact ⟨rfl,(za H0).trans ((za B2).mono (za H0).size)⟩
 go_wp2_with fail
 refine (za HSZ y w2 (by omega) (by omega)).mono ?_
 rintro e w3 ⟨y',rfl,hz0,hz1,hb⟩
 have B3:=hide ((za B2).trans (hb.mono (za B2).size))
 clear hb z0 z1 y0 y1 y2 y3 y4 y5 y6 y7
 obtain ⟨z0,z1,y0,y1,y2,y3,y4,y5,y6,y7⟩:=za HCELL w3 (za B3)
 by_cases hy':y' < 0
 ·go_wp2_with fail
  go_ret
  exact ⟨rfl,(za H0).trans ((za B3).mono (za H0).size)⟩
 clear hy0 hy1 hz0 hz1
 have HR3:=hide (zj (za HR1) (za B3) (Nat.le_refl _))
 go_wp2_with fail
 clear z0 z1 y0 y1 y2 y3 y4 y5 y6 y7
 refine zi (RG w3 (fun f=>{ tmps:=#[.agg #[.int .i64 n,.slice a l.length cap],.agg #[.int .i64 kk,.int .i64 s,.int .i64 ty,.int .i64 li,.int .i64 qt,.int .i64 ii,.float .f64 pr,.string tg],.pointer (some ⟨w.heap.size,0,none⟩),.pointer (some ⟨w.heap.size + 1,0,none⟩),.bool false,.int .i64 y',f 9,f 11,f 12,undef,undef,undef,undef,undef,undef,undef,undef,undef,undef,.agg #[.int .i64 n,.slice a l.length cap],.int .i64 1048576,.int .i64 y,.int .i64 y,.bool (decide (y < 0)),.agg #[.int .i64 kk,.int .i64 s,.int .i64 ty,.int .i64 li,.int .i64 qt,.int .i64 ii,.float .f64 pr,.string tg],.int .i64 y,.int .i64 y',.int .i64 y',.bool (decide (y' < 0)),f 5,f 0,f 1,f 2,f 3,f 4,f 6,f 7,f 8,undef,undef,undef,undef,undef,undef,undef,undef,undef,undef,undef,undef,undef,undef,undef,undef,undef,undef,undef,undef,undef,undef,undef,undef,undef,undef,undef,undef,undef,undef,undef,undef,undef,undef,undef,undef,undef,undef,undef,undef,undef,undef,undef,undef,undef,undef,undef,undef,undef,undef,undef,undef,undef,undef,undef,undef,undef,undef,undef,undef,undef,undef,undef,undef,undef,undef,undef,undef,undef,undef,undef,undef,undef,undef,undef,undef,undef,undef,undef,undef,undef,undef,undef,undef,undef,undef,undef,undef,undef,undef,undef,undef,undef,undef,undef,undef,undef,undef,undef,undef,undef,undef,undef,undef,undef,undef,undef,undef],defers:=[] }) 10 (DL [.agg #[.int .i64 n,.slice a l.length cap],undef,.agg #[.int .i64 kk,.int .i64 s,.int .i64 ty,.int .i64 li,.int .i64 qt,.int .i64 ii,.float .f64 pr,.string tg],.agg #[.int .i64 kk,.int .i64 s,.int .i64 ty,.int .i64 li,.int .i64 qt,.int .i64 ii,.float .f64 pr,.string tg],undef,undef,undef,undef,.int .i64 rc,undef,undef,undef,.int .i64 rc] [(1,1),(4,2),(5,2),(6,3),(7,4),(9,5),(10,9),(11,4)] w3.heap.size n N rc l L E)) (by kernel_rfl) ?_ ?_ ?_
 ·exact ⟨fun _=>undef,rfl,⟨rfl,rfl,rfl,Nat.le_refl _,fun _ _=>rfl⟩,fun j hj=>by rw [List.getElem?_replicate] at hj; split at hj <;> simp at hj⟩
 rotate_left
 ·rintro x A V i op ⟨f,rfl,hbel,hD⟩ hcl hx ho hxi hall
  have HBV:=hide hbel
  have HD:=hide hD
  obtain ⟨z0,z1,y0,y1,y2,y3,y4,y5,y6,y7⟩:=za HCELL V ((za B3).trans (hbel.mono (za B3).size))
  have HRV:=hide (zj (za HR3) hbel (Nat.le_refl _))
  match i,ho with
  | 0,ho =>
   obtain rfl:=Option.some.inj ho
   clear hall hD hbel hcl
   rw [if_pos (by rfl)]
   unfold Oper.wp
   go_simp
   exact ⟨upd f 0 (.agg #[.int .i64 n,.slice a l.length cap]),by simp [upd],zc (za HBV) (za HD) (by decide) (zaN rfl rfl)⟩
  | 1,ho =>
   obtain rfl:=Option.some.inj ho
   have g0:f 0 = .agg #[.int .i64 n,.slice a l.length cap]:=zaO (hD 0 (hall ⟨0,.data⟩ (by simp) rfl)) rfl rfl
   clear hall hD hbel hcl
   rw [if_pos (by rfl)]
   unfold Oper.wp
   go_simp
   refine (zbZ n _ l V (za HRV)).mono ?_
   rintro e w4 ⟨ad,cp,rfl,ho4,hb4⟩
   exact ⟨upd f 1 (.agg #[.int .i64 n,.slice (some ad) l.length cp]),by simp [upd,g0],zas zaZ (za HBV) (za HD) hb4 (by decide) (dl_mk1 rfl ⟨ad,cp,rfl,zar ho4⟩)⟩
  | 2,ho =>
   obtain rfl:=Option.some.inj ho
   clear hall hD hbel hcl
   rw [if_pos (by rfl)]
   unfold Oper.wp
   go_simp
   exact ⟨upd f 2 (.agg #[.int .i64 kk,.int .i64 s,.int .i64 ty,.int .i64 li,.int .i64 qt,.int .i64 ii,.float .f64 pr,.string tg]),by simp [upd],zc (za HBV) (za HD) (by decide) (zaN rfl rfl)⟩
  | 3,ho =>
   obtain rfl:=Option.some.inj ho
   have g2:f 2 = .agg #[.int .i64 kk,.int .i64 s,.int .i64 ty,.int .i64 li,.int .i64 qt,.int .i64 ii,.float .f64 pr,.string tg]:=zaO (hD 2 (hall ⟨2,.data⟩ (by simp) rfl)) rfl rfl
   clear hall hD hbel hcl
   rw [if_pos (by rfl)]
   unfold Oper.wp
   go_simp
   refine (za HTC V).mono ?_
   rintro e w4 ⟨rfl,hb4⟩
   exact ⟨upd f 3 (.agg #[.int .i64 kk,.int .i64 s,.int .i64 ty,.int .i64 li,.int .i64 qt,.int .i64 ii,.float .f64 pr,.string tg]),by simp [upd,g2],zas zaZ (za HBV) (za HD) hb4 (by decide) (zaN rfl rfl)⟩
  | 4,ho =>
   obtain rfl:=Option.some.inj ho
   have hp:¬ x[10]? = some true:=by rw [zF hcl 12 4 10 (by kernel_rfl) hx (by simp) hxi]; simp
   obtain ⟨ad,cp,g1,hr1⟩:=dl_1 (hD 1 (hall ⟨1,.data⟩ (by simp) rfl)) rfl hp
   have HRR:=hide hr1
   clear hr1
   have g3:f 3 = .agg #[.int .i64 kk,.int .i64 s,.int .i64 ty,.int .i64 li,.int .i64 qt,.int .i64 ii,.float .f64 pr,.string tg]:=zaO (hD 3 (hall ⟨3,.data⟩ (by simp) rfl)) rfl rfl
   have hS:=hbel.size
   clear hall hD hbel hcl
   rw [if_pos (by rfl)]
   unfold Oper.wp
   go_simp
   refine (za HSP V ad cp (za HRR)).mono ?_
   rintro e w4 ⟨vq,vg,rfl,ho4,he4,hb4⟩
   obtain ⟨aq,cq,rfl⟩:=zV ho4
   obtain ⟨ag,cg,rfl⟩:=zV he4
   exact ⟨upd f 4 (.tuple #[.agg #[.int .i64 N,.slice aq L.length cq],.slice ag E.length cg,.int .i64 rc]),by simp [upd,g1,g3],zas zaZ (za HBV) (za HD) hb4 (by decide) (dl_mk2 rfl ⟨aq,cq,ag,cg,rfl,zE ho4 hS,zE he4 hS⟩)⟩
  | 5,ho =>
   obtain rfl:=Option.some.inj ho
   obtain ⟨aq,cq,ag,cg,g,h2,h3⟩:=dl_2 (hD 4 (hall ⟨4,.data⟩ (by simp) rfl)) rfl
   have H2:=hide h2
   have H3:=hide h3
   clear h2 h3
   clear hall hD hbel hcl
   rw [if_pos (by rfl)]
   unfold Oper.wp
   go_simp
   exact ⟨upd f 5 (.tuple #[.agg #[.int .i64 N,.slice aq L.length cq],.slice ag E.length cg,.int .i64 rc]),by simp [upd,g],zc (za HBV) (za HD) (by decide) (dl_mk2 rfl ⟨aq,cq,ag,cg,rfl,za H2,za H3⟩)⟩
  | 6,ho =>
   obtain rfl:=Option.some.inj ho
   obtain ⟨aq,cq,ag,cg,g,h2,h3⟩:=dl_2 (hD 5 (hall ⟨5,.data⟩ (by simp) rfl)) rfl
   have H2:=hide h2
   have H3:=hide h3
   clear h2 h3
   clear hall hD hbel hcl
   rw [if_pos (by rfl)]
   unfold Oper.wp
   go_simp
   exact ⟨upd f 6 (.agg #[.int .i64 N,.slice aq L.length cq]),by simp [upd,g],zc (za HBV) (za HD) (by decide) (dl_mk3 rfl ⟨aq,cq,rfl,za H2⟩)⟩
  | 7,ho =>
   obtain rfl:=Option.some.inj ho
   obtain ⟨aq,cq,ag,cg,g,h2,h3⟩:=dl_2 (hD 5 (hall ⟨5,.data⟩ (by simp) rfl)) rfl
   have H2:=hide h2
   have H3:=hide h3
   clear h2 h3
   clear hall hD hbel hcl
   rw [if_pos (by rfl)]
   unfold Oper.wp
   go_simp
   exact ⟨upd f 7 (.slice ag E.length cg),by simp [upd,g],zc (za HBV) (za HD) (by decide) (dl_mk4 rfl ⟨ag,cg,rfl,za H3⟩)⟩
  | 8,ho =>
   obtain rfl:=Option.some.inj ho
   obtain ⟨aq,cq,ag,cg,g,h2,h3⟩:=dl_2 (hD 5 (hall ⟨5,.data⟩ (by simp) rfl)) rfl
   have H2:=hide h2
   have H3:=hide h3
   clear h2 h3
   clear hall hD hbel hcl
   rw [if_pos (by rfl)]
   unfold Oper.wp
   go_simp
   exact ⟨upd f 8 (.int .i64 rc),by simp [upd,g],zc (za HBV) (za HD) (by decide) (zaN rfl rfl)⟩
  | 9,ho =>
   obtain rfl:=Option.some.inj ho
   have hp:¬ x[10]? = some true:=by rw [zF hcl 12 9 10 (by kernel_rfl) hx (by simp) hxi]; simp
   have hS:=hbel.size
   clear hall hD hbel hcl
   rw [if_pos (by rfl)]
   unfold Oper.wp
   go_simp
   exact ⟨upd f 9 (.pointer (some ⟨V.heap.size,0,none⟩)),by simp [upd],zas zaZ (za HBV) (za HD) ((Below.refl _ _).alloc (Nat.le_refl _) _) (by decide) (dl_mk5 rfl hp hS)⟩
  | 10,ho =>
   obtain rfl:=Option.some.inj ho
   obtain ⟨aq,cq,g6,ho6⟩:=dl_3 (hD 6 (hall ⟨6,.data⟩ (by simp) rfl)) rfl
   obtain ⟨b,g9,hSb,hlt,hth,hbx,-⟩:=dl_5 (hD 9 (hall ⟨9,.data⟩ (by simp) rfl)) rfl
   have HST:Hid (∀ j,j ≠ 10→x[j]? = some true→DL [.agg #[.int .i64 n,.slice a l.length cap],undef,.agg #[.int .i64 kk,.int .i64 s,.int .i64 ty,.int .i64 li,.int .i64 qt,.int .i64 ii,.float .f64 pr,.string tg],.agg #[.int .i64 kk,.int .i64 s,.int .i64 ty,.int .i64 li,.int .i64 qt,.int .i64 ii,.float .f64 pr,.string tg],undef,undef,undef,undef,.int .i64 rc,undef,undef,undef,.int .i64 rc] [(1,1),(4,2),(5,2),(6,3),(7,4),(9,5),(10,9),(11,4)] w3.heap.size n N rc l L E False V j (f j)→DL [.agg #[.int .i64 n,.slice a l.length cap],undef,.agg #[.int .i64 kk,.int .i64 s,.int .i64 ty,.int .i64 li,.int .i64 qt,.int .i64 ii,.float .f64 pr,.string tg],.agg #[.int .i64 kk,.int .i64 s,.int .i64 ty,.int .i64 li,.int .i64 qt,.int .i64 ii,.float .f64 pr,.string tg],undef,undef,undef,undef,.int .i64 rc,undef,undef,undef,.int .i64 rc] [(1,1),(4,2),(5,2),(6,3),(7,4),(9,5),(10,9),(11,4)] w3.heap.size n N rc l L E True (V.setCells b 0 [.int .i64 N,.slice aq L.length cq]) j (f j)):=fun j hj hxj h=>dl_store hSb hth hlt hbx ho6 (fun hk=>by rw [look_only hk (i:=9) (by decide)]; exact g9) h
   have HBS:=hide (zC b hSb [.int .i64 N,.slice aq L.length cq] 0 _ hbel)
   obtain ⟨p0,x0,f0⟩:=zd hth (j:=0) (by omega)
   obtain ⟨p1,x1,f1⟩:=zd hth (j:=1) (by omega)
   clear hall hD hbel hcl hth hbx ho6
   rw [if_pos (by rfl)]
   unfold Oper.wp
   go_simp
   exact ⟨f,by simp [g6,g9],rg_write2 (za HBS) (za HD) hxi (za HST) (dl_mk9 rfl)⟩
  | 11,ho =>
   obtain rfl:=Option.some.inj ho
   obtain ⟨ag,cg,g,h3⟩:=dl_4 (hD 7 (hall ⟨7,.data⟩ (by simp) rfl)) rfl
   have H3:=hide h3
   clear h3
   clear hall hD hbel hcl
   rw [if_pos (by rfl)]
   unfold Oper.wp
   go_simp
   exact ⟨upd f 11 (.slice ag E.length cg),by simp [upd,g],zc (za HBV) (za HD) (by decide) (dl_mk4 rfl ⟨ag,cg,rfl,za H3⟩)⟩
  | 12,ho =>
   obtain rfl:=Option.some.inj ho
   have g8:f 8 = .int .i64 rc:=zaO (hD 8 (hall ⟨8,.data⟩ (by simp) rfl)) rfl rfl
   clear hall hD hbel hcl
   rw [if_pos (by rfl)]
   unfold Oper.wp
   go_simp
   exact ⟨upd f 12 (.int .i64 rc),by simp [upd,g8],zc (za HBV) (za HD) (by decide) (zaN rfl rfl)⟩
  | n + 13,ho=>simp at ho
 ·rintro x A V ⟨f,rfl,hbel,hD⟩ hx hrd
  have hallx:=zL hrd hx (by kernel_rfl)
  obtain ⟨agw,cgw,e11,hgew⟩:=dl_4 (hD 11 (hallx 11 (by simp))) rfl
  have e12:f 12 = .int .i64 rc:=zaO (hD 12 (hallx 12 (by simp))) rfl rfl
  obtain ⟨bw,e9,hSw,hltw,-,hbxw,hstw⟩:=dl_5 (hD 9 (hallx 9 (by simp))) rfl
  obtain ⟨aqw,cqw,hraw,hrow⟩:=hstw (hallx 10 (by simp))
  simp only [e11,e12,e9]
  have HBw:Hid (BoxS V bw [.int .i64 N,.slice aqw L.length cqw]):=⟨hraw,hltw,hbxw⟩
  have HWO:=hide hrow
  have HWE:=hide hgew
  have B4:=hide ((za B3).trans (hbel.mono (za B3).size))
  clear hD hallx hrd hx hraw hltw hbxw hstw hrow hgew e9 e11 e12 hbel HR3
  generalize f 0 = tq0
  generalize f 1 = tq1
  generalize f 2 = tq2
  generalize f 3 = tq3
  generalize f 4 = tq4
  generalize f 5 = tq5
  generalize f 6 = tq6
  generalize f 7 = tq7
  generalize f 8 = tq8
  have HR4:=hide (zj (za HR1) (za B4) (Nat.le_refl _))
  obtain ⟨z0,z1,y0,y1,y2,y3,y4,y5,y6,y7⟩:=za HCELL V (za B4)
  go_wp2_with fail
  refine (zbZ n _ l V (za HR4)).mono ?_
  rintro e w5 ⟨a5,cp5,rfl,ho5,hb⟩
  have h6:Below w5.heap.size w5 (w5.alloc (Obj.cells #[.int .i64 n,.slice (some a5) l.length cp5] 32)):=(Below.refl _ _).alloc (Nat.le_refl _) _
  have hb6:=hb.trans (h6.mono hb.size)
  have HXO:=hide (zN ho5 h6 (Nat.le_refl _))
  have HBx:Hid (BoxS (w5.alloc (Obj.cells #[.int .i64 n,.slice (some a5) l.length cp5] 32)) w5.heap.size [.int .i64 n,.slice (some a5) l.length cp5]):=boxS_made w5 [.int .i64 n,.slice (some a5) l.length cp5]
  have hVx:Hid (l ≠ []→∃ g,(Value.slice (some a5) l.length cp5).ownBlock = some g∧V.heap.size ≤ g∧g < w5.heap.size):=fun hne=>ownR_lt ho5 hne
  have hWOlt:Hid (∀ g,(Value.slice aqw L.length cqw).ownBlock = some g→g < V.heap.size):=fun g hg=>((za HWO).lt g hg).2
  have hWElt:Hid (∀ g,(Value.slice agw E.length cgw).ownBlock = some g→g < V.heap.size):=fun g hg=>((za HWE).lt g hg).2
  have hbwV:bw < V.heap.size:=(za HBw).lt
  have h45:V.heap.size ≤ w5.heap.size:=hb.size
  have h14:W1.heap.size ≤ V.heap.size:=(za B4).size
  have HWO:=hide (zg (za HWO) hb6)
  have HWE:=hide (zn (za HWE) hb6)
  have HBw:=hide (zt (za HBw) hb6)
  have B6:=hide ((za B4).trans (hb6.mono (za B4).size))
  have h56:w5.heap.size < (w5.alloc (Obj.cells #[.int .i64 n,.slice (some a5) l.length cp5] 32)).heap.size:=by rw [ze]; omega
  clear hb h6 hb6 ho5 z0 z1 y0 y1 y2 y3 y4 y5 y6 y7
  go_wp2_with fail
  generalize (w5.alloc (Obj.cells #[.int .i64 n,.slice (some a5) l.length cp5] 32)) = W6 at HXO HBx HWO HWE HBw B6 h56 ⊢
  generalize w5.heap.size = bx at HBx hVx h45 h56 ⊢
  refine zi (RG W6 (fun f=>{ tmps:=#[.agg #[.int .i64 n,.slice a l.length cap],.agg #[.int .i64 kk,.int .i64 s,.int .i64 ty,.int .i64 li,.int .i64 qt,.int .i64 ii,.float .f64 pr,.string tg],.pointer (some ⟨w.heap.size,0,none⟩),.pointer (some ⟨w.heap.size + 1,0,none⟩),.bool false,.int .i64 y',.pointer (some ⟨bw,0,none⟩),.slice agw E.length cgw,.int .i64 rc,.pointer (some ⟨bx,0,none⟩),f 8,f 10,f 11,undef,undef,undef,undef,undef,undef,.agg #[.int .i64 n,.slice a l.length cap],.int .i64 1048576,.int .i64 y,.int .i64 y,.bool (decide (y < 0)),.agg #[.int .i64 kk,.int .i64 s,.int .i64 ty,.int .i64 li,.int .i64 qt,.int .i64 ii,.float .f64 pr,.string tg],.int .i64 y,.int .i64 y',.int .i64 y',.bool (decide (y' < 0)),tq5,tq0,tq1,tq2,tq3,tq4,tq6,tq7,tq8,.agg #[.int .i64 n,.slice a l.length cap],.agg #[.int .i64 n,.slice (some a5) l.length cp5],f 4,f 0,f 1,f 2,f 3,f 5,f 6,f 7,undef,undef,undef,undef,undef,undef,undef,undef,undef,undef,undef,undef,undef,undef,undef,undef,undef,undef,undef,undef,undef,undef,undef,undef,undef,undef,undef,undef,undef,undef,undef,undef,undef,undef,undef,undef,undef,undef,undef,undef,undef,undef,undef,undef,undef,undef,undef,undef,undef,undef,undef,undef,undef,undef,undef,undef,undef,undef,undef,undef,undef,undef,undef,undef,undef,undef,undef,undef,undef,undef,undef,undef,undef,undef,undef,undef,undef,undef,undef,undef,undef,undef,undef,undef,undef,undef,undef,undef,undef,undef,undef,undef,undef,undef,undef,undef,undef,undef],defers:=[] }) 9 (DL [.agg #[.int .i64 n,.slice (some a5) l.length cp5],.agg #[.int .i64 kk,.int .i64 s,.int .i64 ty,.int .i64 li,.int .i64 qt,.int .i64 ii,.float .f64 pr,.string tg],.agg #[.int .i64 kk,.int .i64 s,.int .i64 ty,.int .i64 li,.int .i64 qt,.int .i64 ii,.float .f64 pr,.string tg],undef,undef,undef,undef,.int .i64 rc,undef,undef,undef,.int .i64 rc] [(3,2),(4,2),(5,3),(6,4),(8,5),(9,9),(10,4)] W6.heap.size n N rc l L E)) (by kernel_rfl) ?_ ?_ ?_
  ·exact ⟨fun _=>undef,rfl,⟨rfl,rfl,rfl,Nat.le_refl _,fun _ _=>rfl⟩,fun j hj=>by rw [List.getElem?_replicate] at hj; split at hj <;> simp at hj⟩
  rotate_left
  ·rintro x A V i op ⟨f,rfl,hbel,hD⟩ hcl hx ho hxi hall
   have HBV:=hide hbel
   have HD:=hide hD
   obtain ⟨z0,z1,y0,y1,y2,y3,y4,y5,y6,y7⟩:=za HCELL V ((za B6).trans (hbel.mono (za B6).size))
   have d0:V.cell? ⟨bx,0,none⟩ = some (.int .i64 n):=(zt (za HBx) hbel).r 0 _ rfl
   have d1:V.cell? ⟨bx,1,none⟩ = some (.slice (some a5) l.length cp5):=(zt (za HBx) hbel).r 1 _ rfl
   have HRX:=hide (zar (zN (za HXO) hbel (Nat.le_refl _)))
   match i,ho with
   | 0,ho =>
    obtain rfl:=Option.some.inj ho
    clear hall hD hbel hcl
    rw [if_pos (by rfl)]
    unfold Oper.wp
    go_simp
    exact ⟨upd f 0 (.agg #[.int .i64 n,.slice (some a5) l.length cp5]),by simp [upd],zc (za HBV) (za HD) (by decide) (zaN rfl rfl)⟩
   | 1,ho =>
    obtain rfl:=Option.some.inj ho
    clear hall hD hbel hcl
    rw [if_pos (by rfl)]
    unfold Oper.wp
    go_simp
    exact ⟨upd f 1 (.agg #[.int .i64 kk,.int .i64 s,.int .i64 ty,.int .i64 li,.int .i64 qt,.int .i64 ii,.float .f64 pr,.string tg]),by simp [upd],zc (za HBV) (za HD) (by decide) (zaN rfl rfl)⟩
   | 2,ho =>
    obtain rfl:=Option.some.inj ho
    have g1:f 1 = .agg #[.int .i64 kk,.int .i64 s,.int .i64 ty,.int .i64 li,.int .i64 qt,.int .i64 ii,.float .f64 pr,.string tg]:=zaO (hD 1 (hall ⟨1,.data⟩ (by simp) rfl)) rfl rfl
    clear hall hD hbel hcl
    rw [if_pos (by rfl)]
    unfold Oper.wp
    go_simp
    refine (za HTC V).mono ?_
    rintro e w4 ⟨rfl,hb4⟩
    exact ⟨upd f 2 (.agg #[.int .i64 kk,.int .i64 s,.int .i64 ty,.int .i64 li,.int .i64 qt,.int .i64 ii,.float .f64 pr,.string tg]),by simp [upd,g1],zas zaZ (za HBV) (za HD) hb4 (by decide) (zaN rfl rfl)⟩
   | 3,ho =>
    obtain rfl:=Option.some.inj ho
    have g0:f 0 = .agg #[.int .i64 n,.slice (some a5) l.length cp5]:=zaO (hD 0 (hall ⟨0,.data⟩ (by simp) rfl)) rfl rfl
    have g2:f 2 = .agg #[.int .i64 kk,.int .i64 s,.int .i64 ty,.int .i64 li,.int .i64 qt,.int .i64 ii,.float .f64 pr,.string tg]:=zaO (hD 2 (hall ⟨2,.data⟩ (by simp) rfl)) rfl rfl
    have hS:=hbel.size
    clear hall hD hbel hcl
    rw [if_pos (by rfl)]
    unfold Oper.wp
    go_simp
    refine (za HIM V a5 cp5 (za HRX)).mono ?_
    rintro e w4 ⟨vq,vg,rfl,ho4,he4,hb4⟩
    obtain ⟨aq,cq,rfl⟩:=zV ho4
    obtain ⟨ag,cg,rfl⟩:=zV he4
    exact ⟨upd f 3 (.tuple #[.agg #[.int .i64 N,.slice aq L.length cq],.slice ag E.length cg,.int .i64 rc]),by simp [upd,g0,g2],zas zaZ (za HBV) (za HD) hb4 (by decide) (dl_mk2 rfl ⟨aq,cq,ag,cg,rfl,zE ho4 hS,zE he4 hS⟩)⟩
   | 4,ho =>
    obtain rfl:=Option.some.inj ho
    obtain ⟨aq,cq,ag,cg,g,h2,h3⟩:=dl_2 (hD 3 (hall ⟨3,.data⟩ (by simp) rfl)) rfl
    have H2:=hide h2
    have H3:=hide h3
    clear h2 h3
    clear hall hD hbel hcl
    rw [if_pos (by rfl)]
    unfold Oper.wp
    go_simp
    exact ⟨upd f 4 (.tuple #[.agg #[.int .i64 N,.slice aq L.length cq],.slice ag E.length cg,.int .i64 rc]),by simp [upd,g],zc (za HBV) (za HD) (by decide) (dl_mk2 rfl ⟨aq,cq,ag,cg,rfl,za H2,za H3⟩)⟩
   | 5,ho =>
    obtain rfl:=Option.some.inj ho
    obtain ⟨aq,cq,ag,cg,g,h2,h3⟩:=dl_2 (hD 4 (hall ⟨4,.data⟩ (by simp) rfl)) rfl
    have H2:=hide h2
    have H3:=hide h3
    clear h2 h3
    clear hall hD hbel hcl
    rw [if_pos (by rfl)]
    unfold Oper.wp
    go_simp
    exact ⟨upd f 5 (.agg #[.int .i64 N,.slice aq L.length cq]),by simp [upd,g],zc (za HBV) (za HD) (by decide) (dl_mk3 rfl ⟨aq,cq,rfl,za H2⟩)⟩
   | 6,ho =>
    obtain rfl:=Option.some.inj ho
    obtain ⟨aq,cq,ag,cg,g,h2,h3⟩:=dl_2 (hD 4 (hall ⟨4,.data⟩ (by simp) rfl)) rfl
    have H2:=hide h2
    have H3:=hide h3
    clear h2 h3
    clear hall hD hbel hcl
    rw [if_pos (by rfl)]
    unfold Oper.wp
    go_simp
    exact ⟨upd f 6 (.slice ag E.length cg),by simp [upd,g],zc (za HBV) (za HD) (by decide) (dl_mk4 rfl ⟨ag,cg,rfl,za H3⟩)⟩
   | 7,ho =>
    obtain rfl:=Option.some.inj ho
    obtain ⟨aq,cq,ag,cg,g,h2,h3⟩:=dl_2 (hD 4 (hall ⟨4,.data⟩ (by simp) rfl)) rfl
    have H2:=hide h2
    have H3:=hide h3
    clear h2 h3
    clear hall hD hbel hcl
    rw [if_pos (by rfl)]
    unfold Oper.wp
    go_simp
    exact ⟨upd f 7 (.int .i64 rc),by simp [upd,g],zc (za HBV) (za HD) (by decide) (zaN rfl rfl)⟩
   | 8,ho =>
    obtain rfl:=Option.some.inj ho
    have hp:¬ x[9]? = some true:=by rw [zF hcl 12 8 9 (by kernel_rfl) hx (by simp) hxi]; simp
    have hS:=hbel.size
    clear hall hD hbel hcl
    rw [if_pos (by rfl)]
    unfold Oper.wp
    go_simp
    exact ⟨upd f 8 (.pointer (some ⟨V.heap.size,0,none⟩)),by simp [upd],zas zaZ (za HBV) (za HD) ((Below.refl _ _).alloc (Nat.le_refl _) _) (by decide) (dl_mk5 rfl hp hS)⟩
   | 9,ho =>
    obtain rfl:=Option.some.inj ho
    obtain ⟨aq,cq,g6,ho6⟩:=dl_3 (hD 5 (hall ⟨5,.data⟩ (by simp) rfl)) rfl
    obtain ⟨b,g9,hSb,hlt,hth,hbx,-⟩:=dl_5 (hD 8 (hall ⟨8,.data⟩ (by simp) rfl)) rfl
    have HST:Hid (∀ j,j ≠ 9→x[j]? = some true→DL [.agg #[.int .i64 n,.slice (some a5) l.length cp5],.agg #[.int .i64 kk,.int .i64 s,.int .i64 ty,.int .i64 li,.int .i64 qt,.int .i64 ii,.float .f64 pr,.string tg],.agg #[.int .i64 kk,.int .i64 s,.int .i64 ty,.int .i64 li,.int .i64 qt,.int .i64 ii,.float .f64 pr,.string tg],undef,undef,undef,undef,.int .i64 rc,undef,undef,undef,.int .i64 rc] [(3,2),(4,2),(5,3),(6,4),(8,5),(9,9),(10,4)] W6.heap.size n N rc l L E False V j (f j)→DL [.agg #[.int .i64 n,.slice (some a5) l.length cp5],.agg #[.int .i64 kk,.int .i64 s,.int .i64 ty,.int .i64 li,.int .i64 qt,.int .i64 ii,.float .f64 pr,.string tg],.agg #[.int .i64 kk,.int .i64 s,.int .i64 ty,.int .i64 li,.int .i64 qt,.int .i64 ii,.float .f64 pr,.string tg],undef,undef,undef,undef,.int .i64 rc,undef,undef,undef,.int .i64 rc] [(3,2),(4,2),(5,3),(6,4),(8,5),(9,9),(10,4)] W6.heap.size n N rc l L E True (V.setCells b 0 [.int .i64 N,.slice aq L.length cq]) j (f j)):=fun j hj hxj h=>dl_store hSb hth hlt hbx ho6 (fun hk=>by rw [look_only hk (i:=8) (by decide)]; exact g9) h
    have HBS:=hide (zC b hSb [.int .i64 N,.slice aq L.length cq] 0 _ hbel)
    obtain ⟨p0,x0,f0⟩:=zd hth (j:=0) (by omega)
    obtain ⟨p1,x1,f1⟩:=zd hth (j:=1) (by omega)
    clear hall hD hbel hcl hth hbx ho6
    rw [if_pos (by rfl)]
    unfold Oper.wp
    go_simp
    exact ⟨f,by simp [g6,g9],rg_write2 (za HBS) (za HD) hxi (za HST) (dl_mk9 rfl)⟩
   | 10,ho =>
    obtain rfl:=Option.some.inj ho
    obtain ⟨ag,cg,g,h3⟩:=dl_4 (hD 6 (hall ⟨6,.data⟩ (by simp) rfl)) rfl
    have H3:=hide h3
    clear h3
    clear hall hD hbel hcl
    rw [if_pos (by rfl)]
    unfold Oper.wp
    go_simp
    exact ⟨upd f 10 (.slice ag E.length cg),by simp [upd,g],zc (za HBV) (za HD) (by decide) (dl_mk4 rfl ⟨ag,cg,rfl,za H3⟩)⟩
   | 11,ho =>
    obtain rfl:=Option.some.inj ho
    have g7:f 7 = .int .i64 rc:=zaO (hD 7 (hall ⟨7,.data⟩ (by simp) rfl)) rfl rfl
    clear hall hD hbel hcl
    rw [if_pos (by rfl)]
    unfold Oper.wp
    go_simp
    exact ⟨upd f 11 (.int .i64 rc),by simp [upd,g7],zc (za HBV) (za HD) (by decide) (zaN rfl rfl)⟩
   | n + 12,ho=>simp at ho
  ·rintro x A V7 ⟨f,rfl,hbel,hD⟩ hx hrd
   have hallx:=zL hrd hx (by kernel_rfl)
   obtain ⟨agg,cgg,e10,hgeg⟩:=dl_4 (hD 10 (hallx 10 (by simp))) rfl
   have e11:f 11 = .int .i64 rc:=zaO (hD 11 (hallx 11 (by simp))) rfl rfl
   obtain ⟨bg,e8,hSg,hltg,-,hbxg,hstg⟩:=dl_5 (hD 8 (hallx 8 (by simp))) rfl
   obtain ⟨aqg,cqg,hrag,hrog⟩:=hstg (hallx 9 (by simp))
   simp only [e10,e11,e8]
   have HBg:Hid (BoxS V7 bg [.int .i64 N,.slice aqg L.length cqg]):=⟨hrag,hltg,hbxg⟩
   have HGO:=hide hrog
   have HGE:=hide hgeg
   have B7:=hide ((za B6).trans (hbel.mono (za B6).size))
   have HWO:=hide (zg (za HWO) hbel)
   have HWE:=hide (zn (za HWE) hbel)
   have HBw:=hide (zt (za HBw) hbel)
   have HXO:=hide (zN (za HXO) hbel (Nat.le_refl _))
   have HBx:=hide (zt (za HBx) hbel)
   clear hD hallx hrd hx hrag hltg hbxg hstg hrog hgeg e8 e10 e11 hbel
   generalize f 0 = tr0
   generalize f 1 = tr1
   generalize f 2 = tr2
   generalize f 3 = tr3
   generalize f 4 = tr4
   generalize f 5 = tr5
   generalize f 6 = tr6
   generalize f 7 = tr7
   have h67:W6.heap.size ≤ V7.heap.size:=by have:=(za HBg).lt; omega
   have HRCE:Hid (True):=trivial
   have bg0:V7.cell? ⟨bg,0,none⟩ = some (.int .i64 N):=(za HBg).r 0 _ rfl
   have bg1:V7.cell? ⟨bg,1,none⟩ = some (.slice aqg L.length cqg):=(za HBg).r 1 _ rfl
   have bw0:V7.cell? ⟨bw,0,none⟩ = some (.int .i64 N):=(za HBw).r 0 _ rfl
   have bw1:V7.cell? ⟨bw,1,none⟩ = some (.slice aqw L.length cqw):=(za HBw).r 1 _ rfl
   go_wp2_with fail
   refine (zbP N _ _ L V7 (zP (za HGO) (by have:=(za HLL).1; omega)) (zP (za HWO) (by have:=(za HLL).1; omega))).mono ?_
   rintro e w8 ⟨rfl,hb⟩
   have HWO:=hide (zg (za HWO) hb)
   have HWE:=hide (zn (za HWE) hb)
   have HBw:=hide (zt (za HBw) hb)
   have HXO:=hide (zN (za HXO) hb (Nat.le_refl _))
   have HBx:=hide (zt (za HBx) hb)
   have HGO:=hide (zg (za HGO) hb)
   have HGE:=hide (zn (za HGE) hb)
   have HBg:=hide (zt (za HBg) hb)
   have B7:=hide ((za B7).trans (hb.mono (za B7).size))
   clear hb
   go_wp2_with fail
   refine (zbQ _ _ E w8 (zar (zan Ev.len (by have:=(za HLL).2; omega) (za HGE))) (zar (zan Ev.len (by have:=(za HLL).2; omega) (za HWE)))).mono ?_
   rintro e w9 ⟨rfl,hb⟩
   have HWO:=hide (zg (za HWO) hb)
   have HWE:=hide (zn (za HWE) hb)
   have HBw:=hide (zt (za HBw) hb)
   have HXO:=hide (zN (za HXO) hb (Nat.le_refl _))
   have HBx:=hide (zt (za HBx) hb)
   have HGO:=hide (zg (za HGO) hb)
   have HGE:=hide (zn (za HGE) hb)
   have HBg:=hide (zt (za HBg) hb)
   have B7:=hide ((za B7).trans (hb.mono (za B7).size))
   clear hb
   clear bg0 bg1 bw0 bw1
   have bx0:w9.cell? ⟨bx,0,none⟩ = some (.int .i64 n):=(za HBx).r 0 _ rfl
   have bx1:w9.cell? ⟨bx,1,none⟩ = some (.slice (some a5) l.length cp5):=(za HBx).r 1 _ rfl
   obtain ⟨z0,z1,y0,y1,y2,y3,y4,y5,y6,y7⟩:=za HCELL w9 (za B7)
   have HR9:=hide (zj (za HR1) (za B7) (Nat.le_refl _))
   go_wp2_with fail
   clear bx0 bx1 z0 z1 y0 y1 y2 y3 y4 y5 y6 y7
   refine zi (RG w9 (fun f=>{ tmps:=#[.agg #[.int .i64 n,.slice a l.length cap],.agg #[.int .i64 kk,.int .i64 s,.int .i64 ty,.int .i64 li,.int .i64 qt,.int .i64 ii,.float .f64 pr,.string tg],.pointer (some ⟨w.heap.size,0,none⟩),.pointer (some ⟨w.heap.size + 1,0,none⟩),.bool false,.int .i64 y',.pointer (some ⟨bw,0,none⟩),.slice agw E.length cgw,.int .i64 rc,.pointer (some ⟨bx,0,none⟩),.pointer (some ⟨bg,0,none⟩),.slice agg E.length cgg,.int .i64 rc,undef,undef,undef,undef,undef,undef,.agg #[.int .i64 n,.slice a l.length cap],.int .i64 1048576,.int .i64 y,.int .i64 y,.bool (decide (y < 0)),.agg #[.int .i64 kk,.int .i64 s,.int .i64 ty,.int .i64 li,.int .i64 qt,.int .i64 ii,.float .f64 pr,.string tg],.int .i64 y,.int .i64 y',.int .i64 y',.bool (decide (y' < 0)),tq5,tq0,tq1,tq2,tq3,tq4,tq6,tq7,tq8,.agg #[.int .i64 n,.slice a l.length cap],.agg #[.int .i64 n,.slice (some a5) l.length cp5],tr4,tr0,tr1,tr2,tr3,tr5,tr6,tr7,.agg #[.int .i64 N,.slice aqg L.length cqg],.agg #[.int .i64 N,.slice aqw L.length cqw],.bool true,.bool false,.bool false,.slice agg E.length cgg,.slice agw E.length cgw,.bool true,.bool false,.bool false,.bool false,.int .i64 rc,.int .i64 rc,.bool false,.bool false,f 0,f 1,f 2,f 3,f 4,undef,undef,undef,undef,undef,undef,undef,undef,undef,undef,undef,undef,undef,undef,undef,undef,undef,undef,undef,undef,undef,undef,undef,undef,undef,undef,undef,undef,undef,undef,undef,undef,undef,undef,undef,undef,undef,undef,undef,undef,undef,undef,undef,undef,undef,undef,undef,undef,undef,undef,undef,undef,undef,undef,undef,undef,undef,undef,undef,undef,undef,undef,undef,undef,undef,undef,undef,undef,undef,undef,undef,undef,undef,undef,undef,undef,undef,undef],defers:=[] }) 99 (DL [.agg #[.int .i64 n,.slice (some a5) l.length cp5],.agg #[.int .i64 n,.slice a l.length cap],undef,.bool true,.bool false] [(2,1)] w9.heap.size n N rc l L E)) (by kernel_rfl) ?_ ?_ ?_
   ·exact ⟨fun _=>undef,rfl,⟨rfl,rfl,rfl,Nat.le_refl _,fun _ _=>rfl⟩,fun j hj=>by rw [List.getElem?_replicate] at hj; split at hj <;> simp at hj⟩
   rotate_left
   ·rintro x A V i op ⟨f,rfl,hbel,hD⟩ hcl hx ho hxi hall
    have HBV:=hide hbel
    have HD:=hide hD
    obtain ⟨z0,z1,y0,y1,y2,y3,y4,y5,y6,y7⟩:=za HCELL V ((za B7).trans (hbel.mono (za B7).size))
    have d0:V.cell? ⟨bx,0,none⟩ = some (.int .i64 n):=(zt (za HBx) hbel).r 0 _ rfl
    have d1:V.cell? ⟨bx,1,none⟩ = some (.slice (some a5) l.length cp5):=(zt (za HBx) hbel).r 1 _ rfl
    have HRX:=hide (zar (zN (za HXO) hbel (Nat.le_refl _)))
    have HRV:=hide (zj (za HR9) hbel (Nat.le_refl _))
    match i,ho with
    | 0,ho =>
     obtain rfl:=Option.some.inj ho
     clear hall hD hbel hcl
     rw [if_pos (by rfl)]
     unfold Oper.wp
     go_simp
     exact ⟨upd f 0 (.agg #[.int .i64 n,.slice (some a5) l.length cp5]),by simp [upd],zc (za HBV) (za HD) (by decide) (zaN rfl rfl)⟩
    | 1,ho =>
     obtain rfl:=Option.some.inj ho
     clear hall hD hbel hcl
     rw [if_pos (by rfl)]
     unfold Oper.wp
     go_simp
     exact ⟨upd f 1 (.agg #[.int .i64 n,.slice a l.length cap]),by simp [upd],zc (za HBV) (za HD) (by decide) (zaN rfl rfl)⟩
    | 2,ho =>
     obtain rfl:=Option.some.inj ho
     have g1:f 1 = .agg #[.int .i64 n,.slice a l.length cap]:=zaO (hD 1 (hall ⟨1,.data⟩ (by simp) rfl)) rfl rfl
     clear hall hD hbel hcl
     rw [if_pos (by rfl)]
     unfold Oper.wp
     go_simp
     refine (zbZ n _ l V (za HRV)).mono ?_
     rintro e w4 ⟨ad,cp,rfl,ho4,hb4⟩
     exact ⟨upd f 2 (.agg #[.int .i64 n,.slice (some ad) l.length cp]),by simp [upd,g1],zas zaZ (za HBV) (za HD) hb4 (by decide) (dl_mk1 rfl ⟨ad,cp,rfl,zar ho4⟩)⟩
    | 3,ho =>
     obtain rfl:=Option.some.inj ho
     have g0:f 0 = .agg #[.int .i64 n,.slice (some a5) l.length cp5]:=zaO (hD 0 (hall ⟨0,.data⟩ (by simp) rfl)) rfl rfl
     have hp:¬ x[99]? = some true:=by rw [List.getElem?_eq_none (by rw [hx]; simp)]; simp
     obtain ⟨ad,cp,g2,hr2⟩:=dl_1 (hD 2 (hall ⟨2,.data⟩ (by simp) rfl)) rfl hp
     have HRR:=hide hr2
     clear hr2
     clear hall hD hbel hcl
     rw [if_pos (by rfl)]
     unfold Oper.wp
     go_simp
     refine (zbP n _ _ l V (za HRX) (za HRR)).mono ?_
     rintro e w4 ⟨rfl,hb4⟩
     exact ⟨upd f 3 (.bool true),by simp [upd,g0,g2],zas zaZ (za HBV) (za HD) hb4 (by decide) (zaN rfl rfl)⟩
    | 4,ho =>
     obtain rfl:=Option.some.inj ho
     have g3:f 3 = .bool true:=zaO (hD 3 (hall ⟨3,.data⟩ (by simp) rfl)) rfl rfl
     clear hall hD hbel hcl
     rw [if_pos (by rfl)]
     unfold Oper.wp
     go_simp
     exact ⟨upd f 4 (.bool false),by simp [upd,g3],zc (za HBV) (za HD) (by decide) (zaN rfl rfl)⟩
    | n + 5,ho=>simp at ho
   ·rintro x A V10 ⟨f,rfl,hbel,hD⟩ hx hrd
    have hallx:=zL hrd hx (by kernel_rfl)
    have e4:f 4 = .bool false:=zaO (hD 4 (hallx 4 (by simp))) rfl rfl
    simp only [e4]
    have HWO:=hide (zg (za HWO) hbel)
    have HWE:=hide (zn (za HWE) hbel)
    have HBw:=hide (zt (za HBw) hbel)
    have HXO:=hide (zN (za HXO) hbel (Nat.le_refl _))
    have HBx:=hide (zt (za HBx) hbel)
    have HGO:=hide (zg (za HGO) hbel)
    have HGE:=hide (zn (za HGE) hbel)
    have HBg:=hide (zt (za HBg) hbel)
    have B7:=hide ((za B7).trans (hbel.mono (za B7).size))
    clear hD hallx hrd hx hbel e4 HR9
    generalize f 0 = ts0
    generalize f 1 = ts1
    generalize f 2 = ts2
    generalize f 3 = ts3
    have bx0:V10.cell? ⟨bx,0,none⟩ = some (.int .i64 n):=(za HBx).r 0 _ rfl
    have bx1:V10.cell? ⟨bx,1,none⟩ = some (.slice (some a5) l.length cp5):=(za HBx).r 1 _ rfl
    go_wp2_with fail
    refine (zcA n _ l V10 (za HXO) (by omega)).mono ?_
    rintro e w11 ⟨rfl,-,G,hgr,hG⟩
    have hgx:∀ g,G = some g→V.heap.size ≤ g∧g < bx:=fun g hg=>by
     obtain ⟨h1,_,hne⟩:=hG g hg
     obtain ⟨g',h2,h3,h4⟩:=za hVx hne
     rw [h1] at h2
     cases h2
     exact ⟨h3,h4⟩
    have HWO:=hide (World.ownsRow.kept (za HWO) hgr (by cases e:(Value.slice aqw L.length cqw).ownBlock with | none=>exact .inl rfl | some g=>exact .inr fun e2=>by have:=za hWOlt g e; have:=hgx g e2.symm; omega))
    have HWE:=hide (World.ownsRow.kept (za HWE) hgr (by cases e:(Value.slice agw E.length cgw).ownBlock with | none=>exact .inl rfl | some g=>exact .inr fun e2=>by have:=za hWElt g e; have:=hgx g e2.symm; omega))
    have hGOlow:=(za HGO).lt
    have hGElow:=(za HGE).lt
    have HGO:=hide (World.ownsRow.kept (za HGO) hgr (by cases e:(Value.slice aqg L.length cqg).ownBlock with | none=>exact .inl rfl | some g=>exact .inr fun e2=>by have:=hGOlow g e; have:=hgx g e2.symm; omega))
    have HGE:=hide (World.ownsRow.kept (za HGE) hgr (by cases e:(Value.slice agg E.length cgg).ownBlock with | none=>exact .inl rfl | some g=>exact .inr fun e2=>by have:=hGElow g e; have:=hgx g e2.symm; omega))
    have HBw:=hide (zbs (za HBw) hgr (fun e=>by have:=hgx bw e.symm; omega))
    have HBg:=hide (zbs (za HBg) hgr (fun e=>by have:=hgx bg e.symm; omega))
    have B7:=hide ((za B7).trans (zbw hgr (fun g hg=>Nat.le_trans h14 (hgx g hg).1) (za B7).size))
    clear hgr hG hgx hGOlow hGElow bx0 bx1 HXO HBx
    have hk:¬ (((1 + 6 * l.length:Nat):Int) < 0):=by omega
    have bg0:w11.cell? ⟨bg,0,none⟩ = some (.int .i64 N):=(za HBg).r 0 _ rfl
    have bg1:w11.cell? ⟨bg,1,none⟩ = some (.slice aqg L.length cqg):=(za HBg).r 1 _ rfl
    have bw0:w11.cell? ⟨bw,0,none⟩ = some (.int .i64 N):=(za HBw).r 0 _ rfl
    have bw1:w11.cell? ⟨bw,1,none⟩ = some (.slice aqw L.length cqw):=(za HBw).r 1 _ rfl
    go_wp2_with fail
    refine (zbP N _ _ L w11 (zP (za HGO) (by have:=(za HLL).1; omega)) (zP (za HWO) (by have:=(za HLL).1; omega))).mono ?_
    rintro e w12 ⟨rfl,hb⟩
    have HWO:=hide (zg (za HWO) hb)
    have HWE:=hide (zn (za HWE) hb)
    have HBw:=hide (zt (za HBw) hb)
    have HGO:=hide (zg (za HGO) hb)
    have HGE:=hide (zn (za HGE) hb)
    have HBg:=hide (zt (za HBg) hb)
    have B7:=hide ((za B7).trans (hb.mono (za B7).size))
    clear hb
    go_wp2_with fail
    refine (zbQ _ _ E w12 (zar (zan Ev.len (by have:=(za HLL).2; omega) (za HGE))) (zar (zan Ev.len (by have:=(za HLL).2; omega) (za HWE)))).mono ?_
    rintro e w13 ⟨rfl,hb⟩
    have HWO:=hide (zg (za HWO) hb)
    have HWE:=hide (zn (za HWE) hb)
    have HBw:=hide (zt (za HBw) hb)
    have HGO:=hide (zg (za HGO) hb)
    have HGE:=hide (zn (za HGE) hb)
    have HBg:=hide (zt (za HBg) hb)
    have B7:=hide ((za B7).trans (hb.mono (za B7).size))
    clear hb
    clear bg0 bg1 bw0 bw1
    have bg0:w13.cell? ⟨bg,0,none⟩ = some (.int .i64 N):=(za HBg).r 0 _ rfl
    have bg1:w13.cell? ⟨bg,1,none⟩ = some (.slice aqg L.length cqg):=(za HBg).r 1 _ rfl
    go_wp2_with fail
    refine (zcA N _ L w13 (zan Od.len (by have:=(za HLL).1; omega) (za HGO)) (by have:=(za HLL).1; omega)).mono ?_
    rintro e w14 ⟨rfl,hom,G,hgr,hG⟩
    have hGv:G = none ∨ G = (Value.slice aqg L.length cqg).ownBlock:=by cases e:G with | none=>exact .inl rfl | some g=>exact .inr (hG g e).1.symm
    have HWO:=hide (World.ownsRow.kept (za HWO) hgr (by cases e:(Value.slice aqw L.length cqw).ownBlock with | none=>exact .inl rfl | some g=>exact .inr fun e2=>by have:=za hWOlt g e; have:=((za HGO).lt g (hG g e2.symm).1).1; omega))
    have hapE:=zD (za HWE) (za HGO) (by decide)
    have hapG:=zD (za HGE) (za HGO) (by decide)
    have HWE:=hide (World.ownsRow.kept (za HWE) hgr (hGv.elim (fun h=>by rw [h]; cases (Value.slice agw E.length cgw).ownBlock <;> simp) (fun h=>by rw [h]; exact hapE)))
    have HAP:Hid (∀ g,(Value.slice agg E.length cgg).ownBlock = some g→(Value.slice aqg L.length cqg).ownBlock ≠ some g):=fun g hg e=>hapG.elim (fun h=>by rw [h] at hg; cases hg) (fun h=>h (hg.trans e.symm))
    have HGE:=hide (World.ownsRow.kept (za HGE) hgr (hGv.elim (fun h=>by rw [h]; cases (Value.slice agg E.length cgg).ownBlock <;> simp) (fun h=>by rw [h]; exact hapG)))
    have HBw:=hide (zbs (za HBw) hgr (hGv.elim (fun h=>by rw [h]; simp) (fun h=>by rw [h]; exact zm (za HGO) (za HBw).k (by decide))))
    have HBg:=hide (zbs (za HBg) hgr (hGv.elim (fun h=>by rw [h]; simp) (fun h=>by rw [h]; exact zm (za HGO) (za HBg).k (by decide))))
    have B7:=hide ((za B7).trans (zbw hgr (fun g hg=>by have:=((za HGO).lt g (hG g hg).1).1; omega) (za B7).size))
    have HMO:=hide hom
    clear hgr hG hGv hom hapE hapG HGO bg0 bg1
    have hm0:(0:Int) < ((1 + 6 * L.length:Nat):Int):=by omega
    generalize hmk:1 + 6 * L.length = mk
    have HMK:=hide hmk
    have hmk0:0 < mk:=by omega
    have hmk1:mk ≤ 1000000000:=by have:=(za HLL).1; omega
    clear hmk hm0
    go_wp2_with fail
    refine (markE_own _ E mk w14 (zan Ev.len (by have:=(za HLL).2; omega) (za HGE)) (by have:=(za HLL).2; omega) hmk0 hmk1).mono ?_
    rintro e w15 ⟨rfl,hom,G,hgr,hG⟩
    have hGv:G = none ∨ G = (Value.slice agg E.length cgg).ownBlock:=by cases e:G with | none=>exact .inl rfl | some g=>exact .inr (hG g e).1.symm
    have HWE:=hide (World.ownsRow.kept (za HWE) hgr (by cases e:(Value.slice agw E.length cgw).ownBlock with | none=>exact .inl rfl | some g=>exact .inr fun e2=>by have:=za hWElt g e; have:=((za HGE).lt g (hG g e2.symm).1).1; omega))
    have hapO:=zD (za HWO) (za HGE) (by decide)
    have HWO:=hide (World.ownsRow.kept (za HWO) hgr (hGv.elim (fun h=>by rw [h]; cases (Value.slice aqw L.length cqw).ownBlock <;> simp) (fun h=>by rw [h]; exact hapO)))
    have HMO:=hide (ownR_grown (za HMO) hgr (fun _ e=>by cases e2:G with | none=>rw [e2] at e; have:=za HMO; obtain ⟨a0,c0,h1,h2,h3⟩:=this; obtain ⟨g,h4,_⟩:=ownR_lt (za HMO) (by assumption); rw [h4] at e; cases e | some g=>exact za HAP g (hG g e2).1 (e.trans e2)))
    have HBw:=hide (zbs (za HBw) hgr (hGv.elim (fun h=>by rw [h]; simp) (fun h=>by rw [h]; exact zm (za HGE) (za HBw).k (by decide))))
    have HBg:=hide (zbs (za HBg) hgr (hGv.elim (fun h=>by rw [h]; simp) (fun h=>by rw [h]; exact zm (za HGE) (za HBg).k (by decide))))
    have B7:=hide ((za B7).trans (zbw hgr (fun g hg=>by have:=((za HGE).lt g (hG g hg).1).1; omega) (za B7).size))
    have HME:=hide hom
    clear hgr hG hGv hom hapO HGE
    generalize hmt:mk + 14 * E.length = mt
    have HMT:=hide hmt
    have hmt0:¬ ((mt:Nat):Int) < 0:=by omega
    have hmk2:¬ ((mk:Nat):Int) < 0:=by omega
    clear hmt
    have bg0:w15.cell? ⟨bg,0,none⟩ = some (.int .i64 N):=(za HBg).r 0 _ rfl
    have bg1:w15.cell? ⟨bg,1,none⟩ = some (.slice aqg L.length cqg):=(za HBg).r 1 _ rfl
    go_wp2_with fail
    refine (heldBook_any N _ L.length 1 w15 (by have:=(za HLL).1; omega) (by omega) (by omega) (zar (za HMO))).mono ?_
    rw [za HMK]
    rintro e w16 ⟨rfl,hb⟩
    have HWO:=hide (zg (za HWO) hb)
    have HWE:=hide (zn (za HWE) hb)
    have HBw:=hide (zt (za HBw) hb)
    have HMO:=hide (zN (za HMO) hb (Nat.le_refl _))
    have HME:=hide (zN (za HME) hb (Nat.le_refl _))
    have HBg:=hide (zt (za HBg) hb)
    have B7:=hide ((za B7).trans (hb.mono (za B7).size))
    clear hb bg0 bg1
    go_wp2_with fail
    refine (zcy _ E.length mk w16 (by have:=(za HLL).2; omega) hmk0 hmk1 (zar (za HME))).mono ?_
    rw [za HMT]
    rintro e w17 ⟨rfl,hb⟩
    have HWO:=hide (zg (za HWO) hb)
    have HWE:=hide (zn (za HWE) hb)
    have HBw:=hide (zt (za HBw) hb)
    have HMO:=hide (zN (za HMO) hb (Nat.le_refl _))
    have HME:=hide (zN (za HME) hb (Nat.le_refl _))
    have HBg:=hide (zt (za HBg) hb)
    have B7:=hide ((za B7).trans (hb.mono (za B7).size))
    clear hb
    have HR17:=hide (zj (za HR1) (za B7) (Nat.le_refl _))
    obtain ⟨z0,z1,y0,y1,y2,y3,y4,y5,y6,y7⟩:=za HCELL w17 (za B7)
    go_wp2_with fail
    clear z0 z1 y0 y1 y2 y3 y4 y5 y6 y7
    refine zi (RG w17 (fun f=>{ tmps:=#[.agg #[.int .i64 n,.slice a l.length cap],.agg #[.int .i64 kk,.int .i64 s,.int .i64 ty,.int .i64 li,.int .i64 qt,.int .i64 ii,.float .f64 pr,.string tg],.pointer (some ⟨w.heap.size,0,none⟩),.pointer (some ⟨w.heap.size + 1,0,none⟩),.bool false,.int .i64 y',.pointer (some ⟨bw,0,none⟩),.slice agw E.length cgw,.int .i64 rc,.pointer (some ⟨bx,0,none⟩),.pointer (some ⟨bg,0,none⟩),.slice agg E.length cgg,.int .i64 rc,.int .i64 (1 + 6 * l.length),.int .i64 mt,.int .i64 mt,f 9,f 11,f 12,.agg #[.int .i64 n,.slice a l.length cap],.int .i64 1048576,.int .i64 y,.int .i64 y,.bool (decide (y < 0)),.agg #[.int .i64 kk,.int .i64 s,.int .i64 ty,.int .i64 li,.int .i64 qt,.int .i64 ii,.float .f64 pr,.string tg],.int .i64 y,.int .i64 y',.int .i64 y',.bool (decide (y' < 0)),tq5,tq0,tq1,tq2,tq3,tq4,tq6,tq7,tq8,.agg #[.int .i64 n,.slice a l.length cap],.agg #[.int .i64 n,.slice (some a5) l.length cp5],tr4,tr0,tr1,tr2,tr3,tr5,tr6,tr7,.agg #[.int .i64 N,.slice aqg L.length cqg],.agg #[.int .i64 N,.slice aqw L.length cqw],.bool true,.bool false,.bool false,.slice agg E.length cgg,.slice agw E.length cgw,.bool true,.bool false,.bool false,.bool false,.int .i64 rc,.int .i64 rc,.bool false,.bool false,ts0,ts1,ts2,ts3,.bool false,.agg #[.int .i64 n,.slice (some a5) l.length cp5],.int .i64 1,.int .i64 (1 + 6 * l.length),.int .i64 (1 + 6 * l.length),.bool (decide (1 + 6 * l.length < 0)),.bool (decide (1 + 6 * l.length < 0)),.agg #[.int .i64 N,.slice aqg L.length cqg],.agg #[.int .i64 N,.slice aqw L.length cqw],.bool true,.bool false,.bool (decide (1 + 6 * l.length < 0)),.bool (decide (1 + 6 * l.length < 0)),.slice agg E.length cgg,.slice agw E.length cgw,.bool true,.bool false,.bool (decide (1 + 6 * l.length < 0)),.bool (decide (1 + 6 * l.length < 0)),.int .i64 rc,.int .i64 rc,.bool false,.bool (decide (1 + 6 * l.length < 0)),.agg #[.int .i64 N,.slice aqg L.length cqg],.int .i64 1,.int .i64 mk,.slice agg E.length cgg,.int .i64 mk,.int .i64 mt,.agg #[.int .i64 N,.slice aqg L.length cqg],.int .i64 1,.int .i64 mk,.int .i64 mk,.bool (decide (mk < 0)),.slice agg E.length cgg,.int .i64 mk,.int .i64 mt,.int .i64 mt,.bool (decide (mt < 0)),.int .i64 mt,.int .i64 mt,.bool false,f 5,f 0,f 1,f 2,f 3,f 4,f 6,f 7,f 8,undef,undef,undef,undef,undef,undef,undef,undef,undef,undef,undef,undef,undef,undef,undef,undef,undef,undef,undef,undef,undef,undef,undef,undef,undef,undef,undef,undef],defers:=[] }) 10 (DL [.agg #[.int .i64 n,.slice a l.length cap],undef,.agg #[.int .i64 kk,.int .i64 s,.int .i64 ty,.int .i64 li,.int .i64 qt,.int .i64 ii,.float .f64 pr,.string tg],.agg #[.int .i64 kk,.int .i64 s,.int .i64 ty,.int .i64 li,.int .i64 qt,.int .i64 ii,.float .f64 pr,.string tg],undef,undef,undef,undef,.int .i64 rc,undef,undef,undef,.int .i64 rc] [(1,1),(4,2),(5,2),(6,3),(7,4),(9,5),(10,9),(11,4)] w17.heap.size n N rc l L E)) (by kernel_rfl) ?_ ?_ ?_
    ·exact ⟨fun _=>undef,rfl,⟨rfl,rfl,rfl,Nat.le_refl _,fun _ _=>rfl⟩,fun j hj=>by rw [List.getElem?_replicate] at hj; split at hj <;> simp at hj⟩
    rotate_left
    ·rintro x A V i op ⟨f,rfl,hbel,hD⟩ hcl hx ho hxi hall
     have HBV:=hide hbel
     have HD:=hide hD
     obtain ⟨z0,z1,y0,y1,y2,y3,y4,y5,y6,y7⟩:=za HCELL V ((za B7).trans (hbel.mono (za B7).size))
     have HRV:=hide (zj (za HR17) hbel (Nat.le_refl _))
     match i,ho with
     | 0,ho =>
      obtain rfl:=Option.some.inj ho
      clear hall hD hbel hcl
      rw [if_pos (by rfl)]
      unfold Oper.wp
      go_simp
      exact ⟨upd f 0 (.agg #[.int .i64 n,.slice a l.length cap]),by simp [upd],zc (za HBV) (za HD) (by decide) (zaN rfl rfl)⟩
     | 1,ho =>
      obtain rfl:=Option.some.inj ho
      have g0:f 0 = .agg #[.int .i64 n,.slice a l.length cap]:=zaO (hD 0 (hall ⟨0,.data⟩ (by simp) rfl)) rfl rfl
      clear hall hD hbel hcl
      rw [if_pos (by rfl)]
      unfold Oper.wp
      go_simp
      refine (zbZ n _ l V (za HRV)).mono ?_
      rintro e w4 ⟨ad,cp,rfl,ho4,hb4⟩
      exact ⟨upd f 1 (.agg #[.int .i64 n,.slice (some ad) l.length cp]),by simp [upd,g0],zas zaZ (za HBV) (za HD) hb4 (by decide) (dl_mk1 rfl ⟨ad,cp,rfl,zar ho4⟩)⟩
     | 2,ho =>
      obtain rfl:=Option.some.inj ho
      clear hall hD hbel hcl
      rw [if_pos (by rfl)]
      unfold Oper.wp
      go_simp
      exact ⟨upd f 2 (.agg #[.int .i64 kk,.int .i64 s,.int .i64 ty,.int .i64 li,.int .i64 qt,.int .i64 ii,.float .f64 pr,.string tg]),by simp [upd],zc (za HBV) (za HD) (by decide) (zaN rfl rfl)⟩
     | 3,ho =>
      obtain rfl:=Option.some.inj ho
      have g2:f 2 = .agg #[.int .i64 kk,.int .i64 s,.int .i64 ty,.int .i64 li,.int .i64 qt,.int .i64 ii,.float .f64 pr,.string tg]:=zaO (hD 2 (hall ⟨2,.data⟩ (by simp) rfl)) rfl rfl
      clear hall hD hbel hcl
      rw [if_pos (by rfl)]
      unfold Oper.wp
      go_simp
      refine (za HTC V).mono ?_
      rintro e w4 ⟨rfl,hb4⟩
      exact ⟨upd f 3 (.agg #[.int .i64 kk,.int .i64 s,.int .i64 ty,.int .i64 li,.int .i64 qt,.int .i64 ii,.float .f64 pr,.string tg]),by simp [upd,g2],zas zaZ (za HBV) (za HD) hb4 (by decide) (zaN rfl rfl)⟩
     | 4,ho =>
      obtain rfl:=Option.some.inj ho
      have hp:¬ x[10]? = some true:=by rw [zF hcl 12 4 10 (by kernel_rfl) hx (by simp) hxi]; simp
      obtain ⟨ad,cp,g1,hr1⟩:=dl_1 (hD 1 (hall ⟨1,.data⟩ (by simp) rfl)) rfl hp
      have HRR:=hide hr1
      clear hr1
      have g3:f 3 = .agg #[.int .i64 kk,.int .i64 s,.int .i64 ty,.int .i64 li,.int .i64 qt,.int .i64 ii,.float .f64 pr,.string tg]:=zaO (hD 3 (hall ⟨3,.data⟩ (by simp) rfl)) rfl rfl
      have hS:=hbel.size
      clear hall hD hbel hcl
      rw [if_pos (by rfl)]
      unfold Oper.wp
      go_simp
      refine (za HIM V ad cp (za HRR)).mono ?_
      rintro e w4 ⟨vq,vg,rfl,ho4,he4,hb4⟩
      obtain ⟨aq,cq,rfl⟩:=zV ho4
      obtain ⟨ag,cg,rfl⟩:=zV he4
      exact ⟨upd f 4 (.tuple #[.agg #[.int .i64 N,.slice aq L.length cq],.slice ag E.length cg,.int .i64 rc]),by simp [upd,g1,g3],zas zaZ (za HBV) (za HD) hb4 (by decide) (dl_mk2 rfl ⟨aq,cq,ag,cg,rfl,zE ho4 hS,zE he4 hS⟩)⟩
     | 5,ho =>
      obtain rfl:=Option.some.inj ho
      obtain ⟨aq,cq,ag,cg,g,h2,h3⟩:=dl_2 (hD 4 (hall ⟨4,.data⟩ (by simp) rfl)) rfl
      have H2:=hide h2
      have H3:=hide h3
      clear h2 h3
      clear hall hD hbel hcl
      rw [if_pos (by rfl)]
      unfold Oper.wp
      go_simp
      exact ⟨upd f 5 (.tuple #[.agg #[.int .i64 N,.slice aq L.length cq],.slice ag E.length cg,.int .i64 rc]),by simp [upd,g],zc (za HBV) (za HD) (by decide) (dl_mk2 rfl ⟨aq,cq,ag,cg,rfl,za H2,za H3⟩)⟩
     | 6,ho =>
      obtain rfl:=Option.some.inj ho
      obtain ⟨aq,cq,ag,cg,g,h2,h3⟩:=dl_2 (hD 5 (hall ⟨5,.data⟩ (by simp) rfl)) rfl
      have H2:=hide h2
      have H3:=hide h3
      clear h2 h3
      clear hall hD hbel hcl
      rw [if_pos (by rfl)]
      unfold Oper.wp
      go_simp
      exact ⟨upd f 6 (.agg #[.int .i64 N,.slice aq L.length cq]),by simp [upd,g],zc (za HBV) (za HD) (by decide) (dl_mk3 rfl ⟨aq,cq,rfl,za H2⟩)⟩
     | 7,ho =>
      obtain rfl:=Option.some.inj ho
      obtain ⟨aq,cq,ag,cg,g,h2,h3⟩:=dl_2 (hD 5 (hall ⟨5,.data⟩ (by simp) rfl)) rfl
      have H2:=hide h2
      have H3:=hide h3
      clear h2 h3
      clear hall hD hbel hcl
      rw [if_pos (by rfl)]
      unfold Oper.wp
      go_simp
      exact ⟨upd f 7 (.slice ag E.length cg),by simp [upd,g],zc (za HBV) (za HD) (by decide) (dl_mk4 rfl ⟨ag,cg,rfl,za H3⟩)⟩
     | 8,ho =>
      obtain rfl:=Option.some.inj ho
      obtain ⟨aq,cq,ag,cg,g,h2,h3⟩:=dl_2 (hD 5 (hall ⟨5,.data⟩ (by simp) rfl)) rfl
      have H2:=hide h2
      have H3:=hide h3
      clear h2 h3
      clear hall hD hbel hcl
      rw [if_pos (by rfl)]
      unfold Oper.wp
      go_simp
      exact ⟨upd f 8 (.int .i64 rc),by simp [upd,g],zc (za HBV) (za HD) (by decide) (zaN rfl rfl)⟩
     | 9,ho =>
      obtain rfl:=Option.some.inj ho
      have hp:¬ x[10]? = some true:=by rw [zF hcl 12 9 10 (by kernel_rfl) hx (by simp) hxi]; simp
      have hS:=hbel.size
      clear hall hD hbel hcl
      rw [if_pos (by rfl)]
      unfold Oper.wp
      go_simp
      exact ⟨upd f 9 (.pointer (some ⟨V.heap.size,0,none⟩)),by simp [upd],zas zaZ (za HBV) (za HD) ((Below.refl _ _).alloc (Nat.le_refl _) _) (by decide) (dl_mk5 rfl hp hS)⟩
     | 10,ho =>
      obtain rfl:=Option.some.inj ho
      obtain ⟨aq,cq,g6,ho6⟩:=dl_3 (hD 6 (hall ⟨6,.data⟩ (by simp) rfl)) rfl
      obtain ⟨b,g9,hSb,hlt,hth,hbx,-⟩:=dl_5 (hD 9 (hall ⟨9,.data⟩ (by simp) rfl)) rfl
      have HST:Hid (∀ j,j ≠ 10→x[j]? = some true→DL [.agg #[.int .i64 n,.slice a l.length cap],undef,.agg #[.int .i64 kk,.int .i64 s,.int .i64 ty,.int .i64 li,.int .i64 qt,.int .i64 ii,.float .f64 pr,.string tg],.agg #[.int .i64 kk,.int .i64 s,.int .i64 ty,.int .i64 li,.int .i64 qt,.int .i64 ii,.float .f64 pr,.string tg],undef,undef,undef,undef,.int .i64 rc,undef,undef,undef,.int .i64 rc] [(1,1),(4,2),(5,2),(6,3),(7,4),(9,5),(10,9),(11,4)] w17.heap.size n N rc l L E False V j (f j)→DL [.agg #[.int .i64 n,.slice a l.length cap],undef,.agg #[.int .i64 kk,.int .i64 s,.int .i64 ty,.int .i64 li,.int .i64 qt,.int .i64 ii,.float .f64 pr,.string tg],.agg #[.int .i64 kk,.int .i64 s,.int .i64 ty,.int .i64 li,.int .i64 qt,.int .i64 ii,.float .f64 pr,.string tg],undef,undef,undef,undef,.int .i64 rc,undef,undef,undef,.int .i64 rc] [(1,1),(4,2),(5,2),(6,3),(7,4),(9,5),(10,9),(11,4)] w17.heap.size n N rc l L E True (V.setCells b 0 [.int .i64 N,.slice aq L.length cq]) j (f j)):=fun j hj hxj h=>dl_store hSb hth hlt hbx ho6 (fun hk=>by rw [look_only hk (i:=9) (by decide)]; exact g9) h
      have HBS:=hide (zC b hSb [.int .i64 N,.slice aq L.length cq] 0 _ hbel)
      obtain ⟨p0,x0,f0⟩:=zd hth (j:=0) (by omega)
      obtain ⟨p1,x1,f1⟩:=zd hth (j:=1) (by omega)
      clear hall hD hbel hcl hth hbx ho6
      rw [if_pos (by rfl)]
      unfold Oper.wp
      go_simp
      exact ⟨f,by simp [g6,g9],rg_write2 (za HBS) (za HD) hxi (za HST) (dl_mk9 rfl)⟩
     | 11,ho =>
      obtain rfl:=Option.some.inj ho
      obtain ⟨ag,cg,g,h3⟩:=dl_4 (hD 7 (hall ⟨7,.data⟩ (by simp) rfl)) rfl
      have H3:=hide h3
      clear h3
      clear hall hD hbel hcl
      rw [if_pos (by rfl)]
      unfold Oper.wp
      go_simp
      exact ⟨upd f 11 (.slice ag E.length cg),by simp [upd,g],zc (za HBV) (za HD) (by decide) (dl_mk4 rfl ⟨ag,cg,rfl,za H3⟩)⟩
     | 12,ho =>
      obtain rfl:=Option.some.inj ho
      have g8:f 8 = .int .i64 rc:=zaO (hD 8 (hall ⟨8,.data⟩ (by simp) rfl)) rfl rfl
      clear hall hD hbel hcl
      rw [if_pos (by rfl)]
      unfold Oper.wp
      go_simp
      exact ⟨upd f 12 (.int .i64 rc),by simp [upd,g8],zc (za HBV) (za HD) (by decide) (zaN rfl rfl)⟩
     | n + 13,ho=>simp at ho
    ·rintro x A V18 ⟨f,rfl,hbel,hD⟩ hx hrd
     have hallx:=zL hrd hx (by kernel_rfl)
     obtain ⟨agh,cgh,e11,hgeh⟩:=dl_4 (hD 11 (hallx 11 (by simp))) rfl
     have e12:f 12 = .int .i64 rc:=zaO (hD 12 (hallx 12 (by simp))) rfl rfl
     obtain ⟨bh,e9,hSh,hlth,-,hbxh,hsth⟩:=dl_5 (hD 9 (hallx 9 (by simp))) rfl
     obtain ⟨aqh,cqh,hrah,hroh⟩:=hsth (hallx 10 (by simp))
     simp only [e11,e12,e9]
     have HBh:Hid (BoxS V18 bh [.int .i64 N,.slice aqh L.length cqh]):=⟨hrah,hlth,hbxh⟩
     have HHO:=hide hroh
     have HHE:=hide hgeh
     have B8:=hide ((za B7).trans (hbel.mono (za B7).size))
     have HWO:=hide (zg (za HWO) hbel)
     have HWE:=hide (zn (za HWE) hbel)
     have HBw:=hide (zt (za HBw) hbel)
     have HMO:=hide (zN (za HMO) hbel (Nat.le_refl _))
     have HME:=hide (zN (za HME) hbel (Nat.le_refl _))
     have HBg:=hide (zt (za HBg) hbel)
     clear hD hallx hrd hx hrah hlth hbxh hsth hroh hgeh e9 e11 e12 hbel HR17
     generalize f 0 = tu0
     generalize f 1 = tu1
     generalize f 2 = tu2
     generalize f 3 = tu3
     generalize f 4 = tu4
     generalize f 5 = tu5
     generalize f 6 = tu6
     generalize f 7 = tu7
     generalize f 8 = tu8
     have B7:=hide (za B8)
     have bh0:V18.cell? ⟨bh,0,none⟩ = some (.int .i64 N):=(za HBh).r 0 _ rfl
     have bh1:V18.cell? ⟨bh,1,none⟩ = some (.slice aqh L.length cqh):=(za HBh).r 1 _ rfl
     have bw0:V18.cell? ⟨bw,0,none⟩ = some (.int .i64 N):=(za HBw).r 0 _ rfl
     have bw1:V18.cell? ⟨bw,1,none⟩ = some (.slice aqw L.length cqw):=(za HBw).r 1 _ rfl
     go_wp2_with fail
     refine (zbP N _ _ L V18 (zP (za HHO) (by have:=(za HLL).1; omega)) (zP (za HWO) (by have:=(za HLL).1; omega))).mono ?_
     rintro e w19 ⟨rfl,hb⟩
     have HWO:=hide (zg (za HWO) hb)
     have HWE:=hide (zn (za HWE) hb)
     have HBw:=hide (zt (za HBw) hb)
     have HMO:=hide (zN (za HMO) hb (Nat.le_refl _))
     have HME:=hide (zN (za HME) hb (Nat.le_refl _))
     have HBg:=hide (zt (za HBg) hb)
     have HHO:=hide (zg (za HHO) hb)
     have HHE:=hide (zn (za HHE) hb)
     have HBh:=hide (zt (za HBh) hb)
     have B7:=hide ((za B7).trans (hb.mono (za B7).size))
     clear hb
     go_wp2_with fail
     refine (zbQ _ _ E w19 (zar (zan Ev.len (by have:=(za HLL).2; omega) (za HHE))) (zar (zan Ev.len (by have:=(za HLL).2; omega) (za HWE)))).mono ?_
     rintro e w20 ⟨rfl,hb⟩
     have HWO:=hide (zg (za HWO) hb)
     have HWE:=hide (zn (za HWE) hb)
     have HBw:=hide (zt (za HBw) hb)
     have HMO:=hide (zN (za HMO) hb (Nat.le_refl _))
     have HME:=hide (zN (za HME) hb (Nat.le_refl _))
     have HBg:=hide (zt (za HBg) hb)
     have HHO:=hide (zg (za HHO) hb)
     have HHE:=hide (zn (za HHE) hb)
     have HBh:=hide (zt (za HBh) hb)
     have B7:=hide ((za B7).trans (hb.mono (za B7).size))
     clear hb
     clear bh0 bh1 bw0 bw1
     have bg0:w20.cell? ⟨bg,0,none⟩ = some (.int .i64 N):=(za HBg).r 0 _ rfl
     have bg1:w20.cell? ⟨bg,1,none⟩ = some (.slice aqg L.length cqg):=(za HBg).r 1 _ rfl
     go_wp2_with fail
     refine (heldBook_any N _ L.length 1 w20 (by have:=(za HLL).1; omega) (by omega) (by omega) (zar (za HMO))).mono ?_
     rw [za HMK]
     rintro e w21 ⟨rfl,hb⟩
     have HWO:=hide (zg (za HWO) hb)
     have HWE:=hide (zn (za HWE) hb)
     have HBw:=hide (zt (za HBw) hb)
     have HMO:=hide (zN (za HMO) hb (Nat.le_refl _))
     have HME:=hide (zN (za HME) hb (Nat.le_refl _))
     have HBg:=hide (zt (za HBg) hb)
     have HHO:=hide (zg (za HHO) hb)
     have HHE:=hide (zn (za HHE) hb)
     have HBh:=hide (zt (za HBh) hb)
     have B7:=hide ((za B7).trans (hb.mono (za B7).size))
     clear hb bg0 bg1
     go_wp2_with fail
     refine (zcy _ E.length mk w21 (by have:=(za HLL).2; omega) hmk0 hmk1 (zar (za HME))).mono ?_
     rw [za HMT]
     rintro e w22 ⟨rfl,hb⟩
     have HWO:=hide (zg (za HWO) hb)
     have HWE:=hide (zn (za HWE) hb)
     have HBw:=hide (zt (za HBw) hb)
     have HMO:=hide (zN (za HMO) hb (Nat.le_refl _))
     have HME:=hide (zN (za HME) hb (Nat.le_refl _))
     have HBg:=hide (zt (za HBg) hb)
     have HHO:=hide (zg (za HHO) hb)
     have HHE:=hide (zn (za HHE) hb)
     have HBh:=hide (zt (za HBh) hb)
     have B7:=hide ((za B7).trans (hb.mono (za B7).size))
     clear hb
     go_wp2_with fail
     go_ret
     exact ⟨rfl,(za H0).trans ((za B7).mono (za H0).size)⟩
theorem lawStep (n:Int) (a:Option Addr) (len cap:Nat) (c:Cm) (w:World) (h:(Lit.int .i64 n).wf = true∧IsOrders w a len cap) (hc:c.ok) :
  Calls Tryz.prog 3 #[.agg #[.int .i64 n,.slice a len cap],.agg #[.int .i64 c.k,.int .i64 c.s,.int .i64 c.t,.int .i64 c.l,.int .i64 c.q,.int .i64 c.i,.float .f64 c.p,.string c.g]] w fun e w'=>e = .returned (.bool true)∧Below w.heap.size w w':=by
 by_cases hl:len ≤ 1048576
 ·obtain ⟨l,rfl,hr,hok⟩:=h.2.2 (by omega)
  exact exactStep n _ l c w hr hl (fun c hc=>(hok c hc).tag) hc.g
 ·have HZ:=hide (fun W=>szBook_long n a len cap W (by omega) h.2.1)
  obtain ⟨kk,s,ty,li,qt,ii,pr,tg⟩:=c
  simp only
  have hs1:(w.alloc (Obj.cells #[.int .i64 n,.slice a len cap] 24)).heap.size = w.heap.size + 1:=ze _ _
  have H0:Hid (Below w.heap.size w ((w.alloc (Obj.cells #[.int .i64 n,.slice a len cap] 24)).alloc (Obj.cells #[.int .i64 kk,.int .i64 s,.int .i64 ty,.int .i64 li,.int .i64 qt,.int .i64 ii,.float .f64 pr,.string tg] 27))):=((Below.refl _ _).alloc (Nat.le_refl _) _).alloc (by rw [hs1]; omega) _
  clear h hc hs1
  go_enter Tryz.func3,Tryz.ntmps3
  go_wp2_with fail
  refine (za HZ _).mono ?_
  rintro e w1 ⟨rfl,hb⟩
  have B1:=hide ((za H0).trans (hb.mono (za H0).size))
  clear hb
  go_wp2_with fail
  go_ret
  exact ⟨rfl,za B1⟩
end Go.Proofs.YtdfihaabhichdaaGreat
