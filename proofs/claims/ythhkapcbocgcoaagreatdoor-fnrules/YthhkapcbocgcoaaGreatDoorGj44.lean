/-
  A group done, by the program: proved by walking the functions.
-/
import Derived.Test.YthhkapcbocgcoaaGreatDoorGj43
set_option linter.unusedVariables false
set_option maxHeartbeats 6400000
set_option maxRecDepth 100000
namespace Go.Proofs.YthhkapcbocgcoaaGreatDoor
open Go.RowKit
def endR (g:Gr):Int:=if g.bg = 0 ∨ (dueG g).kind ≠ 0 then 15 else 0
def apR (next:Int) (l:List Od) (es:List Ev):Int:=if fltC next l es ≠ 0 then 0 else if (runG (gr0 next l) es).2 = 0 then endR (runG (gr0 next l) es).1 else (runG (gr0 next l) es).2
def apC (next:Int) (l:List Od) (es:List Ev):Int:=if fltC next l es ≠ 0 then fltC next l es else if apR next l es ≠ 0 then 8 else 0
def apN (next:Int) (l:List Od) (es:List Ev):Int:=if fltC next l es = 0∧apR next l es = 0 then (runG (gr0 next l) es).1.nx else 0
def apL (next:Int) (l:List Od) (es:List Ev):List Od:=if fltC next l es = 0∧apR next l es = 0 then (runG (gr0 next l) es).1.l else []
def ApE (w:World) (n:Int) (L:List Od) (r c:Int) (x:Ending) (w':World):Prop:=∃ v,x = ym (.tuple #[.agg #[H n,v],H r,H c])∧ORow w' w.heap.size v L∧yn w w'
theorem fieldDu (dk di dt dq dp:Int) (W:World):Sem.run Tryz.prog (Instr.field 39 (.agg #[H dk,H di,H dt,H dq,H dp]) 0) W = .ok (H dk) W:=by kernel_rfl
theorem endRule_any {G B r:Nat} {vq:Value} {g:Gr} (w:World) (h:GS G B r w vq g) (hi:GI g):Calls Tryz.prog 22 #[I G 0] w fun e w'=>e = ym (H (endR g))∧yn w w':=by
 have hfd:=fieldDu
 have HD:=M (due_any w h hi)
 have HR:Hid (endR g = if g.bg = 0 ∨ (dueG g).kind ≠ 0 then 15 else 0):=rfl
 have c3:=zb h.box 3 rfl
 generalize endR g = er at HR ⊢
 generalize dueG g = d at HD HR
 obtain ⟨dk,di,dt,dq,dp⟩:=d
 unfold duV at HD
 simp only at HD HR
 clear h hi
 by_cases A:g.bg = 0
 ·have HQ:=M (U HR)
  rw [if_pos (.inl A)] at HQ
  rw [A] at c3
  go_enter Tryz.func22,Tryz.ntmps22
  go_wp2_with fail
  go_ret
  exact ⟨by rw [U HQ]; rfl,Below.refl _ _⟩
 ·have b0:(g.bg == 0) = false:=by simpa using A
  by_cases E:dk = 0
  ·have HQ:=M (U HR)
   rw [if_neg (fun h=>h.elim A (fun h=>h E))] at HQ
   have b1:(dk != 0) = false:=by simpa using E
   clear E A
   go_enter Tryz.func22,Tryz.ntmps22
   go_wp2_with fail
   refine (U HD).mono ?_
   rintro e w2 ⟨rfl,xP⟩
   have HB:=M xP
   clear xP
   go_wp2_with fail
   go_ret
   exact ⟨by rw [U HQ]; rfl,U HB⟩
  ·have HQ:=M (U HR)
   rw [if_pos (.inr E)] at HQ
   have b1:(dk != 0) = true:=by simpa using E
   clear E A
   go_enter Tryz.func22,Tryz.ntmps22
   go_wp2_with fail
   refine (U HD).mono ?_
   rintro e w2 ⟨rfl,xP⟩
   have HB:=M xP
   clear xP
   go_wp2_with fail
   go_ret
   exact ⟨by rw [U HQ]; rfl,U HB⟩
theorem implApply_any (next:Int) (vb:Value) (l:List Od) (v:Value) (es:List Ev) (w:World) (hr:RdR Od.vs 6 w vb l) (hs:SlOk vb) (kC:∀ o ∈ l,o.tag.size ≤ maxLen) (he:RdR Ev.vs 14 w v es) (hf:∀ e ∈ es,e.fit) (hE:ErrT w) :
  Calls Tryz.prog 9 #[.agg #[H next,vb],v] w fun x w'=>ApE w (apN next l es) (apL next l es) (apR next l es) (apC next l es) x w':=by
 have hsf:=sfl
 have qV:=M (fun W (h:yn w W)=>gI next vb l v es W (zh hr h hU) kC (zh he h hU) hf (zW hE h hU))
 have HGB:Hid (fltC next l es = 0→∀ W,yn w W→Calls Tryz.prog 19 #[.agg #[H next,vb],v] W fun x w'=>BehE W.heap.size W (runG (gr0 next l) es) x w'):=fun h0 W h=>gH next vb l v es W (zh hr h hU) hs (okS_gi (flt_ok h0).2.1) (zh he h hU) (flt_ok h0).2.2 (fun e he=>(hf e he).g)
 have kJ:Hid (∀ G B r W vq,GS G B r W vq (runG (gr0 next l) es).1→GI (runG (gr0 next l) es).1→Calls Tryz.prog 22 #[I G 0] W fun x w'=>x = ym (H (endR (runG (gr0 next l) es).1))∧yn W w'):=fun G B r W vq Q D=>endRule_any W Q D
 have HR:Hid (apR next l es = if fltC next l es ≠ 0 then 0 else if (runG (gr0 next l) es).2 = 0 then endR (runG (gr0 next l) es).1 else (runG (gr0 next l) es).2):=rfl
 have HC:Hid (apC next l es = if fltC next l es ≠ 0 then fltC next l es else if apR next l es ≠ 0 then 8 else 0):=rfl
 have HN:Hid (apN next l es = if fltC next l es = 0∧apR next l es = 0 then (runG (gr0 next l) es).1.nx else 0):=rfl
 have HL:Hid (apL next l es = if fltC next l es = 0∧apR next l es = 0 then (runG (gr0 next l) es).1.l else []):=rfl
 generalize apN next l es = an at HN ⊢
 generalize apL next l es = al at HL ⊢
 generalize apC next l es = ac at HC ⊢
 generalize apR next l es = ar at HR HC HN HL ⊢
 generalize fltC next l es = fc at qV HGB HR HC HN HL
 generalize endR (runG (gr0 next l) es).1 = er at kJ HR
 generalize runG (gr0 next l) es = hR at HGB kJ HR HN HL
 obtain ⟨g1,ru⟩:=hR
 simp only at kJ HR HN HL
 have H1:Hid (fc ≠ 0→an = 0∧al = []∧ar = 0∧ac = fc):=fun h=>⟨by rw [U HN,if_neg (fun D=>h D.1)],by rw [U HL,if_neg (fun D=>h D.1)],by rw [U HR,if_pos h],by rw [U HC,if_pos h]⟩
 have H2:Hid (∀ q,fc = 0→(if ru = 0 then er else ru) = q→q ≠ 0→an = 0∧al = []∧ar = q∧ac = 8):=fun q h hq D=>by
  have ha:ar = q:=by rw [U HR,if_neg (not_not_intro h),hq]
  exact ⟨by rw [U HN,if_neg (fun X=>D (ha ▸ X.2))],by rw [U HL,if_neg (fun X=>D (ha ▸ X.2))],ha,by rw [U HC,if_neg (not_not_intro h),if_pos (ha ▸ D)]⟩
 have H3:Hid (fc = 0→ru = 0→er = 0→an = g1.nx∧al = g1.l∧ar = 0∧ac = 0):=fun h D X=>by
  have ha:ar = 0:=by rw [U HR,if_neg (not_not_intro h),if_pos D,X]
  exact ⟨by rw [U HN,if_pos ⟨h,ha⟩],by rw [U HL,if_pos ⟨h,ha⟩],ha,by rw [U HC,if_neg (not_not_intro h),if_neg (not_not_intro ha)]⟩
 unfold ApE
 obtain ⟨hX,hY,hB,hZ⟩:=wb2_box w [H next,vb] [H 0,.slice none 0 0] 27 27
 have HX:=M hX
 have HD:=M hY
 have HB:=M hB
 generalize hW:wb2 w [H next,vb] [H 0,.slice none 0 0] 27 27 = W1 at HX HD HB hZ
 have HW:=M hW
 obtain ⟨a,cap,rfl,xD,hc⟩:=he
 clear hr hs kC hf hc hX hY hB hW HR HC HN HL hE
 go_enter Tryz.func9,Tryz.ntmps9
 refine ic fun xh HK=>?_
 go_wp2_with fail
 refine U HK _ _ ?_
 clear HK
 change Code.wp _ _ _ _ (wb2 w [H next,vb] [H 0,.slice none 0 0] 27 27)
 rw [U HW]
 clear HW
 have x0:=zb (U HX) 0 rfl
 have x1:=zb (U HX) 1 rfl
 go_wp2_with fail
 refine (U qV W1 (U HB)).mono ?_
 rintro e w2 ⟨rfl,A⟩
 have HB:=M (ia (U HB) A)
 have HX:=M (zl (U HX) A (by omega))
 have HD:=M (zl (U HD) A hZ)
 have hZ:w.heap.size + 1 < w2.heap.size:=by have:=A.size; omega
 clear A x0 x1 qV
 by_cases hfc:fc = 0
 case neg =>
  have b0:(fc != 0) = true:=by simpa using hfc
  have HQ:=M (U H1 hfc)
  clear hfc
  have z0:=zb (U HD) 0 rfl
  have z1:=zb (U HD) 1 rfl
  have f0:=zd (U HD) 0 (by decide)
  have f1:=zd (U HD) 1 (by decide)
  go_wp2_with fail
  try simp (config:={ zetaDelta:=true }) only [Exit.noGoto_ret]
  change bodyPost _ _ _ _ _ (World.setCells w2 (w.heap.size + 1) 0 [H 0,.slice none 0 0])
  have xq:Hid ((World.setCells w2 (w.heap.size + 1) 0 [H 0,.slice none 0 0]).rangeAt (w.heap.size + 1) 0 [H 0,.slice none 0 0]∧yn w (World.setCells w2 (w.heap.size + 1) 0 [H 0,.slice none 0 0])∧ORow (World.setCells w2 (w.heap.size + 1) 0 [H 0,.slice none 0 0]) w.heap.size (.slice none 0 0) []):=⟨(zB (U HD) (by simp only [List.length_cons,List.length_nil])).r,zj (w.heap.size + 1) (by omega) [H 0,.slice none 0 0] 0 w2 (U HB),World.ownsRow_nil _ _ _ _⟩
  generalize World.setCells w2 (w.heap.size + 1) 0 [H 0,.slice none 0 0] = WE at xq ⊢
  have d0:WE.cell? (J (w.heap.size + 1) 0) = some (H 0):=(U xq).1 0 _ rfl
  have d1:WE.cell? (J (w.heap.size + 1) 1) = some (.slice none 0 0):=(U xq).1 1 _ rfl
  try simp only [Exit.inBlock,Exit.then]
  refine bodyPost_ret (by simp [results,Tryz.results9,go_sem,d0,d1]; try rfl) rfl ?_
  refine ⟨_,by rw [(U HQ).1,(U HQ).2.2.1,(U HQ).2.2.2]; try rfl,?_,(U xq).2.1⟩
  rw [(U HQ).2.1]
  exact (U xq).2.2
 have b0:(fc != 0) = false:=by simpa using hfc
 have HFZ:=M hfc
 clear hfc
 have x0:=zb (U HX) 0 rfl
 have x1:=zb (U HX) 1 rfl
 have aN:w.heap.size + 1 < w2.heap.size:=hZ
 go_wp2_with fail
 refine (U HGB (U HFZ) w2 (U HB)).mono ?_
 rintro e w4 ⟨G,rfl,A,ka⟩
 have HB:=M (ia (U HB) A)
 have HX:=M (zl (U HX) A (by omega))
 have HD:=M (zl (U HD) A hZ)
 have hZ:w.heap.size + 1 < w4.heap.size:=by have:=A.size; omega
 have oe:=M ka
 clear A ka x0 x1
 simp only at oe ⊢
 by_cases hru:ru = 0
 case neg =>
  have b1:(ru == 0) = false:=by simpa using hru
  have b2:(ru != 0) = true:=by simpa using hru
  have HQ:=M (U H2 ru (U HFZ) (if_neg hru) hru)
  clear hru
  have z0:=zb (U HD) 0 rfl
  have z1:=zb (U HD) 1 rfl
  have f0:=zd (U HD) 0 (by decide)
  have f1:=zd (U HD) 1 (by decide)
  go_wp2_with fail
  try simp (config:={ zetaDelta:=true }) only [Exit.noGoto_ret]
  change bodyPost _ _ _ _ _ (World.setCells w4 (w.heap.size + 1) 0 [H 0,.slice none 0 0])
  have xq:Hid ((World.setCells w4 (w.heap.size + 1) 0 [H 0,.slice none 0 0]).rangeAt (w.heap.size + 1) 0 [H 0,.slice none 0 0]∧yn w (World.setCells w4 (w.heap.size + 1) 0 [H 0,.slice none 0 0])∧ORow (World.setCells w4 (w.heap.size + 1) 0 [H 0,.slice none 0 0]) w.heap.size (.slice none 0 0) []):=⟨(zB (U HD) (by simp only [List.length_cons,List.length_nil])).r,zj (w.heap.size + 1) (by omega) [H 0,.slice none 0 0] 0 w4 (U HB),World.ownsRow_nil _ _ _ _⟩
  generalize World.setCells w4 (w.heap.size + 1) 0 [H 0,.slice none 0 0] = WE at xq ⊢
  have d0:WE.cell? (J (w.heap.size + 1) 0) = some (H 0):=(U xq).1 0 _ rfl
  have d1:WE.cell? (J (w.heap.size + 1) 1) = some (.slice none 0 0):=(U xq).1 1 _ rfl
  try simp only [Exit.inBlock,Exit.then]
  refine bodyPost_ret (by simp [results,Tryz.results9,go_sem,d0,d1]; try rfl) rfl ?_
  refine ⟨_,by rw [(U HQ).1,(U HQ).2.2.1,(U HQ).2.2.2]; try rfl,?_,(U xq).2.1⟩
  rw [(U HQ).2.1]
  exact (U xq).2.2
 have b1:(ru == 0) = true:=by simpa using hru
 obtain ⟨r,vq,pN,hgi⟩:=U oe hru
 have jm:=M (U kJ G _ r w4 vq pN hgi)
 have HGS:=M pN
 have HLQ:=M hgi.len
 have HRZ:=M hru
 clear hru pN hgi oe kJ
 go_wp2_with fail
 refine (U jm).mono ?_
 rintro e w5 ⟨rfl,A⟩
 have HGS:=M (zx (U HGS) A)
 have HB:=M (ia (U HB) A)
 have HX:=M (zl (U HX) A (by omega))
 have HD:=M (zl (U HD) A hZ)
 have hZ:w.heap.size + 1 < w5.heap.size:=by have:=A.size; omega
 clear A b1
 by_cases oQ:er = 0
 case neg =>
  have b2:(er != 0) = true:=by simpa using oQ
  have HQ:=M (U H2 er (U HFZ) (if_pos (U HRZ)) oQ)
  clear oQ
  have z0:=zb (U HD) 0 rfl
  have z1:=zb (U HD) 1 rfl
  have f0:=zd (U HD) 0 (by decide)
  have f1:=zd (U HD) 1 (by decide)
  go_wp2_with fail
  try simp (config:={ zetaDelta:=true }) only [Exit.noGoto_ret]
  change bodyPost _ _ _ _ _ (World.setCells w5 (w.heap.size + 1) 0 [H 0,.slice none 0 0])
  have xq:Hid ((World.setCells w5 (w.heap.size + 1) 0 [H 0,.slice none 0 0]).rangeAt (w.heap.size + 1) 0 [H 0,.slice none 0 0]∧yn w (World.setCells w5 (w.heap.size + 1) 0 [H 0,.slice none 0 0])∧ORow (World.setCells w5 (w.heap.size + 1) 0 [H 0,.slice none 0 0]) w.heap.size (.slice none 0 0) []):=⟨(zB (U HD) (by simp only [List.length_cons,List.length_nil])).r,zj (w.heap.size + 1) (by omega) [H 0,.slice none 0 0] 0 w5 (U HB),World.ownsRow_nil _ _ _ _⟩
  generalize World.setCells w5 (w.heap.size + 1) 0 [H 0,.slice none 0 0] = WE at xq ⊢
  have d0:WE.cell? (J (w.heap.size + 1) 0) = some (H 0):=(U xq).1 0 _ rfl
  have d1:WE.cell? (J (w.heap.size + 1) 1) = some (.slice none 0 0):=(U xq).1 1 _ rfl
  try simp only [Exit.inBlock,Exit.then]
  refine bodyPost_ret (by simp [results,Tryz.results9,go_sem,d0,d1]; try rfl) rfl ?_
  refine ⟨_,by rw [(U HQ).1,(U HQ).2.2.1,(U HQ).2.2.2]; try rfl,?_,(U xq).2.1⟩
  rw [(U HQ).2.1]
  exact (U xq).2.2
 have b2:(er != 0) = false:=by simpa using oQ
 have HQ:=M (U H3 (U HFZ) (U HRZ) oQ)
 clear oQ
 obtain ⟨qa,qc,rfl⟩:=rd_lenF (zV (U HGS).row (yO (U HLQ) (by decide)))
 have c1:=zb (U HGS).box 1 rfl
 have c2:=zb (U HGS).box 2 rfl
 have z0:=zb (U HD) 0 rfl
 have z1:=zb (U HD) 1 rfl
 have f0:=zd (U HD) 0 (by decide)
 have f1:=zd (U HD) 1 (by decide)
 go_wp2_with fail
 try simp (config:={ zetaDelta:=true }) only [Exit.noGoto_ret]
 change bodyPost _ _ _ _ _ (World.setCells w5 (w.heap.size + 1) 0 [H g1.nx,.slice qa g1.l.length qc])
 have xq:Hid ((World.setCells w5 (w.heap.size + 1) 0 [H g1.nx,.slice qa g1.l.length qc]).rangeAt (w.heap.size + 1) 0 [H g1.nx,.slice qa g1.l.length qc]∧yn w (World.setCells w5 (w.heap.size + 1) 0 [H g1.nx,.slice qa g1.l.length qc])∧ORow (World.setCells w5 (w.heap.size + 1) 0 [H g1.nx,.slice qa g1.l.length qc]) w.heap.size (.slice qa g1.l.length qc) g1.l):=⟨(zB (U HD) (by simp only [List.length_cons,List.length_nil])).r,zj (w.heap.size + 1) (by omega) [H g1.nx,.slice qa g1.l.length qc] 0 w5 (U HB),row_sets (fun e=>by have:=((U HGS).row.lt _ e.symm).1; omega) [H g1.nx,.slice qa g1.l.length qc] 0 w5 (dE (U HGS).row (by omega))⟩
 generalize World.setCells w5 (w.heap.size + 1) 0 [H g1.nx,.slice qa g1.l.length qc] = WE at xq ⊢
 have d0:WE.cell? (J (w.heap.size + 1) 0) = some (H g1.nx):=(U xq).1 0 _ rfl
 have d1:WE.cell? (J (w.heap.size + 1) 1) = some (.slice qa g1.l.length qc):=(U xq).1 1 _ rfl
 try simp only [Exit.inBlock,Exit.then]
 refine bodyPost_ret (by simp [results,Tryz.results9,go_sem,d0,d1]; try rfl) rfl ?_
 refine ⟨_,by rw [(U HQ).1,(U HQ).2.2.1,(U HQ).2.2.2]; try rfl,?_,(U xq).2.1⟩
 rw [(U HQ).2.1]
 exact (U xq).2.2
theorem gov_ok {N:Int} {L:List Od}:∀ {es:List Ev} {g:Gr},Gov g es N L→∀ e ∈ es,okE e = true
 | [],_,_,_,h=>nomatch h
 | x :: es,g,h,e,he=>by
  rcases List.mem_cons.1 he with rfl | he
  ·exact h.1
  ·exact gov_ok h.2.2.2 e he
theorem gov_flt {n N:Int} {l L:List Od} {hk:List Ev} (h:Gov (gr0 n l) hk N L) (un:OkB n l) (hE:hk.length ≤ 100) (j:Nat):fltC n l (hk.take j) = 0:=by
 have hl:(hk.take j).length ≤ 100:=by rw [List.length_take]; omega
 rw [fltC,if_neg (by omega),if_neg]
 rintro (Q | Q)
 ·rw [okB_ok un] at Q; cases Q
 ·have:(hk.take j).all okE = true:=List.all_eq_true.2 fun e he=>gov_ok h e (List.mem_of_mem_take he)
  rw [this] at Q; cases Q
theorem gov_at {n N:Int} {l L:List Od} {hk:List Ev} (h:Gov (gr0 n l) hk N L) (un:OkB n l) (hE:hk.length ≤ 100) {j:Nat} {x:Ev} (hx:hk[j]? = some x) :
  brkR n l (hk.take j) x = 0∧brkC n l (hk.take j) x = 0∧duC n l (hk.take j) = 0∧(0 < j→DueIs (duD n l (hk.take j)) x):=by
 have xM:=(yH.1 hx).1
 obtain ⟨g',e1,e2,e3⟩:=gov_take h j (by omega)
 have hf:=gov_flt h un hE j
 have hd:hk.drop j = x :: hk.drop (j + 1):=by
  have Q:=xd xM
  rw [Q,(yH.1 hx).2]
 rw [hd] at e2
 obtain ⟨o1,o2,o3,-⟩:=e2
 refine ⟨?_,?_,?_,fun h0=>?_⟩
 ·rw [brkR,e1,if_pos ⟨hf,o1,rfl⟩]; exact o2
 ·rw [brkC,hf,if_neg (by decide),o1,if_neg (by decide),e1]; rfl
 ·rw [duC,hf,if_neg (by decide),e1]; rfl
 ·rw [duD,e1,if_pos ⟨hf,rfl⟩]; exact o3 (e3 h0)
theorem gov_end {n N:Int} {l L:List Od} {hk:List Ev} (h:Gov (gr0 n l) hk N L) (un:OkB n l) (hE:hk.length ≤ 100) :
  duC n l hk = 0∧(duD n l hk).kind = 0∧apR n l hk = 0∧apC n l hk = 0∧apN n l hk = N∧apL n l hk = L:=by
 have hf:=gov_flt h un hE hk.length
 obtain ⟨g',e1,e2,-⟩:=gov_take h hk.length (Nat.le_refl _)
 rw [xa (Nat.le_refl _)] at e1 hf
 rw [xb (Nat.le_refl _)] at e2
 obtain ⟨b0,d0,n0,l0⟩:=e2
 have hr:apR n l hk = 0:=by
  rw [apR,hf,if_neg (by decide),e1,if_pos rfl]
  show endR g' = 0
  rw [endR,if_neg]
  rintro (Q | Q)
  ·exact b0 Q
  ·exact Q d0
 refine ⟨?_,?_,hr,?_,?_,?_⟩
 ·rw [duC,hf,if_neg (by decide),e1]; rfl
 ·rw [duD,e1,if_pos ⟨hf,rfl⟩]; exact d0
 ·rw [apC,hf,if_neg (by decide),hr]; rfl
 ·rw [apN,if_pos ⟨hf,hr⟩,e1]; exact n0
 ·rw [apL,if_pos ⟨hf,hr⟩,e1]; exact l0
theorem rdR_take {W:World} {a:Option Addr} {c j:Nat} {hk:List Ev} (h:RdR Ev.vs 14 W (.slice a hk.length c) hk) (hj:j ≤ hk.length):RdR Ev.vs 14 W (.slice a j c) (hk.take j):=by
 obtain ⟨a1,c1,e1,Q,D⟩:=h
 simp only [Value.slice.injEq,true_and] at e1
 obtain ⟨rfl,rfl⟩:=e1
 have hl:(hk.take j).length = j:=by rw [List.length_take]; omega
 refine ⟨a,c,by rw [hl],by rw [hl]; omega,fun xC=>?_⟩
 obtain ⟨b,off,X,h4,h5⟩:=D (fun e=>xC (by rw [e]; simp))
 refine ⟨b,off,X,h4,fun i x hi=>h5 i x ?_⟩
 rw [List.getElem?_take] at hi
 split at hi
 ·exact hi
 ·cases hi
theorem specBookOK_any (next:Int) (v:Value) (l:List Od) (w:World) (hr:RdR Od.vs 6 w v l) (hg:∀ c ∈ l,c.tag.size ≤ maxLen) :
  Calls Tryz.prog 15 #[.agg #[H next,v]] w fun e w'=>e = .returned (.bool (okS next l))∧yn w w':=by
 have HR:=M hr
 have HGG:=M hg
 obtain ⟨a,cap,rfl,xD,hc⟩:=hr
 have xr:∀ (k:Nat) (c:Od),l[k]? = some c→∃ b off,a = some (J b off)∧b < w.heap.size∧w.rangeAt b (off + k * 6) c.vs:=by
  intro k c E
  obtain ⟨b,off,Q,D,X⟩:=hc (by intro h; rw [h] at E; simp at E)
  exact ⟨b,off,Q,D,X k c E⟩
 have HC:=M xr
 clear xr hc hg
 have xZ:Hid (yn w (w.alloc (O #[H next,.slice a l.length cap] 27))):=gZ _ _
 have qG:=zm w [H next,.slice a l.length cap] 27
 have HX:Hid (World.rangeAt (w.alloc (O #[H next,.slice a l.length cap] 27)) w.heap.size 0 [H next,.slice a l.length cap]∧w.heap.size < (w.alloc (O #[H next,.slice a l.length cap] 27)).heap.size):=⟨qG,by rw [zi]; omega⟩
 clear qG
 cases Q:betB next 1 1000000
 ·go_enter Tryz.func15,Tryz.ntmps15
  go_wp2_with fail
  refine (db next 1 1000000 _).mono ?_
  rintro e w1 ⟨rfl,rfl⟩
  go_wp2_with fail
  go_ret
  exact ⟨zo (by simp [okS,Q]),U xZ⟩
 by_cases D:l.length ≤ 20
 rotate_left
 ·have og:(20:Int) < l.length:=by omega
  go_enter Tryz.func15,Tryz.ntmps15
  go_wp2_with fail
  refine (db next 1 1000000 _).mono ?_
  rintro e w1 ⟨rfl,rfl⟩
  go_wp2_with fail
  go_ret
  exact ⟨zo (by simp [okS,Q,D]),U xZ⟩
 have og:¬ ((20:Int) < l.length):=by omega
 go_enter Tryz.func15,Tryz.ntmps15
 go_wp2_with fail
 refine (db next 1 1000000 _).mono ?_
 rintro e w1 ⟨rfl,rfl⟩
 go_wp2_with fail
 generalize (w.alloc (O #[H next,.slice a l.length cap] 27)) = W1 at xZ HX ⊢
 have hsw:=(U HX).2
 go_loopw [3] (fun iv wr=>∃ (i:Nat) (last:Int),i ≤ l.length∧iv = H i∧Hid (allR next 0 l = allR next last (l.drop i))∧0 ≤ last∧(i = 0→last = 0)∧(∀ j,i = j + 1→∃ p,l[j]? = some p∧p.id = last)∧yn W1 wr) (fun iv _=>l.length - (intOf iv).toNat)
 case atStart=>exact ⟨0,0,Nat.zero_le _,rfl,rfl,Int.le_refl _,fun _=>rfl,fun j hj=>by omega,Below.refl _ _⟩
 case round =>
  obtain ⟨i,last,hi,rfl,K,jk,hz,hp,xi⟩:=hrel
  have HB:=M xi
  have HP:=M hp
  have hbox:=zc (U HX).1 xi hsw
  have x0:wr.cell? (J w.heap.size 0) = some (H next):=hbox 0 _ rfl
  have x1:wr.cell? (J w.heap.size 1) = some (.slice a l.length cap):=hbox 1 _ rfl
  have HBOX:=M hbox
  clear xi hp hbox
  by_cases xM:i < l.length
  ·obtain ⟨c,uV⟩:∃ c,l[i]? = some c:=⟨_,yI xM⟩
   have vR:l.drop i = c :: l.drop (i + 1):=by
    obtain ⟨Q,rfl⟩:=yH.1 uV
    exact xd Q
   have HI:Hid (allR next 0 l = (ordB c && decide (last < c.id) && decide (c.id < next) && allR next c.id (l.drop (i + 1)))):=by
    have:=U K
    rw [vR] at this
    exact this
   obtain ⟨b,off,rfl,A,xo⟩:=U HC i c uV
   have hb01:=(U xZ).trans ((U HB).mono (U xZ).size)
   obtain ⟨g0,g1,g2,g3,g4,g5⟩:=zC (zc xo hb01 A)
   have HS:=M (U HGG c (yP uV))
   have kY:=M uV
   have vj:(i:Int) < l.length:=by omega
   have pz:=(U HB).size
   have om:=M hb01
   clear uV xo vR K hb01
   go_wp2_with fail
   generalize hW4:(wr.alloc (O (yw c.id c.side c.ticks c.left c.life c.tag).toArray 65)) = W4
   have kz:Hid (W4.rangeAt wr.heap.size 0 c.vs∧W4.rangeAt w.heap.size 0 [H next,.slice (some (J b off)) l.length cap]∧yn W1 W4∧W4.heap.size = wr.heap.size + 1∧yn wr W4):=by
    subst hW4
    have hbb:=gZ wr (O (yw c.id c.side c.ticks c.left c.life c.tag).toArray 65)
    exact ⟨zm wr c.vs _,zc (U HBOX) hbb (by omega),(U HB).alloc pz _,zi _ _,hbb⟩
   have qO:Hid (∀ w',W4.grownBy w' none→w'.rangeAt wr.heap.size 0 c.vs∧w'.rangeAt w.heap.size 0 [H next,.slice (some (J b off)) l.length cap]):=fun w' h' =>
    ⟨zv (U kz).1 h' (by rw [(U kz).2.2.2.1]; omega) (by simp),zv (U kz).2.1 h' (by rw [(U kz).2.2.2.1]; omega) (by simp)⟩
   have HPREV:Hid (∀ j p,i = j + 1→l[j]? = some p→∀ w',W4.grownBy w' none→w'.rangeAt b (off + j * 6) p.vs):=fun j p hj hpj w' h'=>by
    obtain ⟨b',jQ,jL,hb',qQ⟩:=U HC j p hpj
    simp only [Option.some.injEq,Addr.mk.injEq,and_true] at jL
    obtain ⟨rfl,rfl⟩:=jL
    exact zv (zc (zc qQ (U om) A) (U kz).2.2.2.2 (yK A (U om).size)) h' (by rw [(U kz).2.2.2.1]; have:=(U om).size; omega) (by simp)
   have HORD:Hid (∀ W,Calls Tryz.prog 32 #[.agg (yw c.id c.side c.ticks c.left c.life c.tag).toArray] W fun e w'=>e = .returned (.bool (ordB c))∧W.grownBy w' none):=fun W=>(l03Order_any c W (U HS)).mono fun e w' h=>⟨h.1,ep h.2 hU⟩
   clear hW4 g0 g1 g2 g3 g4 g5 x0 x1
   haveI:=gw_ne W4
   have k0:∀ u:GW W4,u.val.cell? (J wr.heap.size 0) = some (H c.id):=fun u=>(U qO u.val u.property).1 0 _ rfl
   have k1:∀ u:GW W4,u.val.cell? (J wr.heap.size 1) = some (H c.side):=fun u=>(U qO u.val u.property).1 1 _ rfl
   have k2:∀ u:GW W4,u.val.cell? (J wr.heap.size 2) = some (H c.ticks):=fun u=>(U qO u.val u.property).1 2 _ rfl
   have k3:∀ u:GW W4,u.val.cell? (J wr.heap.size 3) = some (H c.left):=fun u=>(U qO u.val u.property).1 3 _ rfl
   have k4:∀ u:GW W4,u.val.cell? (J wr.heap.size 4) = some (H c.life):=fun u=>(U qO u.val u.property).1 4 _ rfl
   have k5:∀ u:GW W4,u.val.cell? (J wr.heap.size 5) = some (yk c.tag):=fun u=>(U qO u.val u.property).1 5 _ rfl
   have m0:∀ u:GW W4,u.val.cell? (J w.heap.size 0) = some (H next):=fun u=>(U qO u.val u.property).2 0 _ rfl
   have m1:∀ u:GW W4,u.val.cell? (J w.heap.size 1) = some (.slice (some (J b off)) l.length cap):=fun u=>(U qO u.val u.property).2 1 _ rfl
   cases Y:ordB c
   ·have HN:Hid (allR next 0 l = false):=by
     show _ = _
     rw [U HI,Y]; simp
    refine fy (W:=W4) (by kernel_rfl) (by kernel_rfl) (yS _ _) ?_
    repeat (go_big_quiet_step ((rename_i u; refine (U HORD u.val).mono ?_; rintro e w3 ⟨rfl,uF⟩; exact ⟨rfl,⟨w3,u.property.trans uF⟩,rfl⟩)))
    refine wpQuiet_nil ?_
    rintro _ ⟨⟨w5,qw⟩,rfl⟩
    have uE:=M ((U kz).2.2.1.grown qw (by rw [(U kz).2.2.2.1]; omega) (fun g hg=>by cases hg))
    clear qw
    go_wp2_with fail
    go_ret
    exact ⟨zo (by rw [okS,U HN]; simp),(U xZ).trans ((U uE).mono (U xZ).size)⟩
   by_cases js:c.id < 1
   ·have vB:¬ last < c.id:=by omega
    have hd1:decide (c.id < 1) = true:=by simpa using js
    have HN:Hid (allR next 0 l = false):=by
     show _ = _
     rw [U HI,decide_eq_false vB]; simp
    refine fy (W:=W4) (by kernel_rfl) (by kernel_rfl) (yS _ _) ?_
    repeat (go_big_quiet_step ((rename_i u; refine (U HORD u.val).mono ?_; rintro e w3 ⟨rfl,uF⟩; exact ⟨rfl,⟨w3,u.property.trans uF⟩,rfl⟩)))
    refine wpQuiet_nil ?_
    rintro _ ⟨⟨w5,qw⟩,rfl⟩
    have uE:=M ((U kz).2.2.1.grown qw (by rw [(U kz).2.2.2.1]; omega) (fun g hg=>by cases hg))
    clear qw
    go_wp2_with fail
    go_ret
    exact ⟨zo (by rw [okS,U HN]; simp),(U xZ).trans ((U uE).mono (U xZ).size)⟩
   have hd1:decide (c.id < 1) = false:=by simpa using js
   by_cases hcn:c.id < next
   rotate_left
   ·have hd2:decide (next ≤ c.id) = true:=by simp; omega
    have HN:Hid (allR next 0 l = false):=by
     show _ = _
     rw [U HI,decide_eq_false hcn]; simp
    refine fy (W:=W4) (by kernel_rfl) (by kernel_rfl) (yS _ _) ?_
    repeat (go_big_quiet_step ((rename_i u; refine (U HORD u.val).mono ?_; rintro e w3 ⟨rfl,uF⟩; exact ⟨rfl,⟨w3,u.property.trans uF⟩,rfl⟩)))
    refine wpQuiet_nil ?_
    rintro _ ⟨⟨w5,qw⟩,rfl⟩
    have uE:=M ((U kz).2.2.1.grown qw (by rw [(U kz).2.2.2.1]; omega) (fun g hg=>by cases hg))
    clear qw
    go_wp2_with fail
    go_ret
    exact ⟨zo (by rw [okS,U HN]; simp),(U xZ).trans ((U uE).mono (U xZ).size)⟩
   have hd2:decide (next ≤ c.id) = false:=by simpa using hcn
   cases i with
   | zero =>
    have vB:last < c.id:=by have:=hz rfl; omega
    have HN:Hid (allR next 0 l = allR next c.id (l.drop (0 + 1))):=by
     show _ = _
     rw [U HI,Y,decide_eq_true vB,decide_eq_true hcn]; rfl
    refine fy (W:=W4) (by kernel_rfl) (by kernel_rfl) (yS _ _) ?_
    repeat (go_big_quiet_step ((rename_i u; refine (U HORD u.val).mono ?_; rintro e w3 ⟨rfl,uF⟩; exact ⟨rfl,⟨w3,u.property.trans uF⟩,rfl⟩)))
    refine wpQuiet_nil ?_
    rintro _ ⟨⟨w5,qw⟩,rfl⟩
    have uE:=M ((U kz).2.2.1.grown qw (by rw [(U kz).2.2.2.1]; omega) (fun g hg=>by cases hg))
    clear qw
    go_wp2_with fail
    go_roundw
    case rel=>exact ⟨0 + 1,c.id,by omega,by go_num,U HN,by omega,fun h=>by omega,fun j' hj'=>⟨c,by rw [show j' = 0 by omega]; exact U kY,rfl⟩,U uE⟩
    case measure=>simp [intOf]; omega
   | succ j =>
    obtain ⟨p,hpj,vD⟩:=U HP j rfl
    have q0:∀ u:GW W4,u.val.cell? (J b (off + j * 6)) = some (H p.id):=fun u=>(zC (U HPREV j p rfl hpj u.val u.property)).1
    have oT:((j + 1:Nat):Int) = (j:Int) + 1:=by omega
    have hjl:(j:Int) < l.length:=by omega
    have hwj:IntKind.i64.wrap ((j:Int) + 1 - 1) = (j:Int):=by rw [IntKind.wrap_i64]; omega
    have vM:decide ((0:Int) < (j:Int) + 1) = true:=by rw [xg]; omega
    clear hpj
    by_cases vB:last < c.id
    ·have hd3:decide (c.id ≤ p.id) = false:=by rw [vD]; simpa using vB
     have HN:Hid (allR next 0 l = allR next c.id (l.drop ((j + 1) + 1))):=by
      show _ = _
      rw [U HI,Y,decide_eq_true vB,decide_eq_true hcn]; rfl
     refine fy (W:=W4) (by kernel_rfl) (by kernel_rfl) (yS _ _) ?_
     repeat (go_big_quiet_step ((rename_i u; refine (U HORD u.val).mono ?_; rintro e w3 ⟨rfl,uF⟩; exact ⟨rfl,⟨w3,u.property.trans uF⟩,rfl⟩)))
     refine wpQuiet_nil ?_
     rintro _ ⟨⟨w5,qw⟩,rfl⟩
     have uE:=M ((U kz).2.2.1.grown qw (by rw [(U kz).2.2.2.1]; omega) (fun g hg=>by cases hg))
     clear qw
     go_wp2_with fail
     go_roundw
     case rel=>exact ⟨(j + 1) + 1,c.id,by omega,by go_num,U HN,by omega,fun h=>by omega,fun j' hj'=>⟨c,by rw [show j' = (j + 1) by omega]; exact U kY,rfl⟩,U uE⟩
     case measure=>simp [intOf]; omega
    ·have hd3:decide (c.id ≤ p.id) = true:=by rw [vD]; simpa using vB
     have HN:Hid (allR next 0 l = false):=by
      show _ = _
      rw [U HI,decide_eq_false vB]; simp
     refine fy (W:=W4) (by kernel_rfl) (by kernel_rfl) (yS _ _) ?_
     repeat (go_big_quiet_step ((rename_i u; refine (U HORD u.val).mono ?_; rintro e w3 ⟨rfl,uF⟩; exact ⟨rfl,⟨w3,u.property.trans uF⟩,rfl⟩)))
     refine wpQuiet_nil ?_
     rintro _ ⟨⟨w5,qw⟩,rfl⟩
     have uE:=M ((U kz).2.2.1.grown qw (by rw [(U kz).2.2.2.1]; omega) (fun g hg=>by cases hg))
     clear qw
     go_wp2_with fail
     go_ret
     exact ⟨zo (by rw [okS,U HN]; simp),(U xZ).trans ((U uE).mono (U xZ).size)⟩
  ·have hallT:allR next 0 l = true:=by
    have h:=U K
    rw [xb (by omega)] at h
    rw [h]; rfl
   have HALL:=M hallT
   have HRI:=M (fP hallT).1
   have om:=M ((U xZ).trans ((U HB).mono (U xZ).size))
   have HRr:=M (zh (U HR) (U om) hU)
   have pz:w.heap.size < wr.heap.size:=yK hsw (U HB).size
   clear K hallT
   go_wp2_with fail
   refine (l03Levels_any _ l wr (U HRr) (by omega)).mono ?_
   rintro e w3 ⟨rfl,uF⟩
   have uS:=M uF
   have z1:w3.cell? (J w.heap.size 1) = some (.slice a l.length cap):=uF.cell x1 (by simp)
   have pe:=M (rdR_grown (U HRr) uF (fun g hg=>by cases hg))
   clear uF x0 x1
   by_cases h8:nlev l ≤ 8
   rotate_left
   ·have h8':(8:Int) < (nlev l:Nat):=by omega
    go_wp2_with fail
    go_ret
    refine ⟨zo (by simp [okS,h8]),?_⟩
    exact (U om).trans ((gr_below' (U uS) (fun g hg=>by cases hg) hU).mono (U om).size)
   have h8':¬ ((8:Int) < (nlev l:Nat)):=by omega
   have pC:Hid (okS next l = noX l):=by
    show _ = _
    rw [okS,Q,decide_eq_true D,U HALL,decide_eq_true h8]; rfl
   go_wp2_with fail
   refine (gK _ l 1 w3 (U pe) (U HRI) (by omega)).mono ?_
   rintro e w4 ⟨kb,rfl,oR,jt⟩
   have uk:=M ((U uS).trans jt)
   have y1:w4.cell? (J w.heap.size 1) = some (.slice a l.length cap):=jt.cell z1 (by simp)
   have HR4:=M (rdR_grown (U pe) jt (fun g hg=>by cases hg))
   have HF1:=M oR
   clear jt oR z1
   go_wp2_with fail
   refine (gK _ l 2 w4 (U HR4) (U HRI) (by omega)).mono ?_
   rintro e w5 ⟨ks,rfl,hf2,qw⟩
   have uu:=M ((U uk).trans qw)
   have v1:w5.cell? (J w.heap.size 1) = some (.slice a l.length cap):=qw.cell y1 (by simp)
   have HF2:=M hf2
   have vk:=M ((U om).trans ((gr_below' (U uu) (fun g hg=>by cases hg) hU).mono (U om).size))
   clear qw hf2 y1
   rcases frPre_end (U HF1) with ⟨rfl,hno1⟩ | ⟨ib,ob,rfl,hib,oS⟩
   ·have HN:=M (noX_none1 hno1)
    clear hno1
    go_wp2_with fail
    go_quiet (fail)
    go_wp2_with fail
    go_ret
    exact ⟨zo (by rw [U pC,U HN]),⟨(U vk).os,(U vk).tape,(U vk).output,(U vk).size,(U vk).block⟩⟩
   have hib0:decide ((ib:Int) < 0) = false:=by simp
   rcases frPre_end (U HF2) with ⟨rfl,hno2⟩ | ⟨is,os,rfl,his,hfs⟩
   ·have HN:=M (noX_none2 hno2)
    clear hno2
    go_wp2_with fail
    go_quiet (fail)
    go_wp2_with fail
    go_ret
    exact ⟨zo (by rw [U pC,U HN]),⟨(U vk).os,(U vk).tape,(U vk).output,(U vk).size,(U vk).block⟩⟩
   have his0:decide ((is:Int) < 0) = false:=by simp
   have HN:=M (noX_fronts oS hfs)
   obtain ⟨b,off,rfl,A,hcb⟩:=U HC ib ob oS.1
   obtain ⟨b',jQ,jL,hb',hcs⟩:=U HC is os hfs.1
   simp only [Option.some.injEq,Addr.mk.injEq,and_true] at jL
   obtain ⟨rfl,rfl⟩:=jL
   obtain ⟨-,-,t1,-⟩:=zC (zc hcb (U vk) A)
   obtain ⟨-,-,t2,-⟩:=zC (zc hcs (U vk) A)
   have hib':(ib:Int) < l.length:=by omega
   have his':(is:Int) < l.length:=by omega
   clear oS hfs hcb hcs
   go_wp2_with fail
   go_quiet (fail)
   go_wp2_with fail
   go_ret
   exact ⟨zo (by rw [U pC,U HN]),⟨(U vk).os,(U vk).tape,(U vk).output,(U vk).size,(U vk).block⟩⟩
def spN (next:Int) (l:List Od) (c:Cm):Int:=if okS next l = true then stN next l c else 0
def spL (next:Int) (l:List Od) (c:Cm):List Od:=if okS next l = true then stL next l c else []
def spE (next:Int) (l:List Od) (c:Cm):List Ev:=if okS next l = true then stE next l c else []
theorem box3 (w:World) (bl cl rl:List Value) (T1 T2 T3:TypeId):(((w.alloc (Obj.cells bl.toArray T1)).alloc (Obj.cells cl.toArray T2)).alloc (Obj.cells rl.toArray T3)).heap.size = w.heap.size + 3∧World.rangeAt (((w.alloc (Obj.cells bl.toArray T1)).alloc (Obj.cells cl.toArray T2)).alloc (Obj.cells rl.toArray T3)) w.heap.size 0 bl∧World.rangeAt (((w.alloc (Obj.cells bl.toArray T1)).alloc (Obj.cells cl.toArray T2)).alloc (Obj.cells rl.toArray T3)) (w.heap.size + 1) 0 cl∧World.rangeAt (((w.alloc (Obj.cells bl.toArray T1)).alloc (Obj.cells cl.toArray T2)).alloc (Obj.cells rl.toArray T3)) (w.heap.size + 1 + 1) 0 rl∧World.there (((w.alloc (Obj.cells bl.toArray T1)).alloc (Obj.cells cl.toArray T2)).alloc (Obj.cells rl.toArray T3)) (w.heap.size + 1 + 1) 0 rl.length∧yn w (((w.alloc (Obj.cells bl.toArray T1)).alloc (Obj.cells cl.toArray T2)).alloc (Obj.cells rl.toArray T3)):=by
 have xF:=zi w (Obj.cells bl.toArray T1)
 have ug:((w.alloc (Obj.cells bl.toArray T1)).alloc (Obj.cells cl.toArray T2)).heap.size = w.heap.size + 1 + 1:=by rw [zi,xF]
 have r1:=zm w bl T1
 have r2:=zm (w.alloc (Obj.cells bl.toArray T1)) cl T2
 have r3:=zm ((w.alloc (Obj.cells bl.toArray T1)).alloc (Obj.cells cl.toArray T2)) rl T3
 have t3:=zM ((w.alloc (Obj.cells bl.toArray T1)).alloc (Obj.cells cl.toArray T2)) rl T3
 have b1:=gZ w (Obj.cells bl.toArray T1)
 have b2:Below (w.alloc (Obj.cells bl.toArray T1)).heap.size (w.alloc (Obj.cells bl.toArray T1)) ((w.alloc (Obj.cells bl.toArray T1)).alloc (Obj.cells cl.toArray T2)):=gZ _ _
 have b3:Below ((w.alloc (Obj.cells bl.toArray T1)).alloc (Obj.cells cl.toArray T2)).heap.size ((w.alloc (Obj.cells bl.toArray T1)).alloc (Obj.cells cl.toArray T2)) (((w.alloc (Obj.cells bl.toArray T1)).alloc (Obj.cells cl.toArray T2)).alloc (Obj.cells rl.toArray T3)):=gZ _ _
 rw [xF] at r2
 rw [ug] at r3 t3
 refine ⟨by rw [zi,ug],zc (zc r1 b2 (by omega)) b3 (by omega),zc r2 b3 (by omega),r3,t3,b1.trans ((ia b2 b3).mono b1.size)⟩
end Go.Proofs.YthhkapcbocgcoaaGreatDoor
