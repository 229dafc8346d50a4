/-
  An order is added to the tree, proved by walking the function.
-/
import Derived.Test.YtopjoogdpjaocaaGreatTj06
set_option linter.unusedVariables false
set_option maxHeartbeats 6400000
set_option maxRecDepth 100000
namespace Go.Proofs.YtopjoogdpjaocaaGreat
open Go.RowKit
set_option maxRecDepth 100000 in
set_option maxHeartbeats 400000 in
theorem add_s (b:Nat) (sd:Int) (seq:List Od) (o:Od) (w:World) (h:zak 173 false w b sd seq) (hsd:o.side = sd) (hn:seq.length < 20) (hl:∀ o' ∈ seq,0 ≤ o'.left∧o'.left ≤ 1000000) (hlo:0 ≤ o.left∧o.left ≤ 1000000) :
  Calls Tryz.prog 118 #[.pointer (some ⟨b,0,none⟩),.agg #[.int .i64 o.id,.int .i64 o.side,.int .i64 o.ticks,.int .i64 o.left,.int .i64 o.life,.string o.tag]] w fun e w' =>
   e = .returned (.tuple #[])∧zak 173 false w' b sd (seq ++ [o])∧w.grownBy w' (some b):=by
 obtain ⟨S,t,hT,hi,hq,hlc⟩:=h
 have HI:=hide hi
 have HQ:=hide hq
 have HT:=hide hT
 have HLC:=hide hlc
 have HL:=hide hl
 have HSD:=hide hsd
 have HOC:=hide hq.oc
 have hoc':(S.oc:Int) < 20:=by have:=hq.oc; omega
 have e1:((S.oc + 1:Nat):Int) = (S.oc:Int) + 1:=by omega
 have hb:b ≠ w.heap.size:=by have:=tm_lt hT; omega
 have hrange:World.rangeAt (w.alloc (Obj.cells #[.int .i64 o.id,.int .i64 o.side,.int .i64 o.ticks,.int .i64 o.left,.int .i64 o.life,.string o.tag] 78)) w.heap.size 0 o.vs:=zh w o.vs 78
 have hTW:TM 173 (w.alloc (Obj.cells #[.int .i64 o.id,.int .i64 o.side,.int .i64 o.ticks,.int .i64 o.left,.int .i64 o.life,.string o.tag] 78)) b S:=zan hT (Below.heap_alloc w _ _ (tm_lt hT))
 have c1:=hTW.oc
 have f1:=hTW.fr
 have hT1:=tm_oc hTW (S.oc + 1)
 have hR1:Hid (World.rangeAt (World.setCell (w.alloc (Obj.cells #[.int .i64 o.id,.int .i64 o.side,.int .i64 o.ticks,.int .i64 o.left,.int .i64 o.life,.string o.tag] 78)) ⟨b,170,none⟩ (.int .i64 ((S.oc + 1:Nat):Int))) w.heap.size 0 o.vs):=fun j u hu=>by
  rw [World.cell?_setCell_other _ _ _ _ (fun e=>hb (congrArg Addr.block e))]; exact hrange j u hu
 have hG1:Hid (w.grownBy (World.setCell (w.alloc (Obj.cells #[.int .i64 o.id,.int .i64 o.side,.int .i64 o.ticks,.int .i64 o.left,.int .i64 o.life,.string o.tag] 78)) ⟨b,170,none⟩ (.int .i64 ((S.oc + 1:Nat):Int))) (some b)):=zL (World.grownBy_alloc w (Obj.cells #[.int .i64 o.id,.int .i64 o.side,.int .i64 o.ticks,.int .i64 o.left,.int .i64 o.life,.string o.tag] 78) _) _ _
 have HT1:=hide hT1
 have hs1:Hid (w.heap.size < (World.heap (World.setCell (w.alloc (Obj.cells #[.int .i64 o.id,.int .i64 o.side,.int .i64 o.ticks,.int .i64 o.left,.int .i64 o.life,.string o.tag] 78)) ⟨b,170,none⟩ (.int .i64 ((S.oc + 1:Nat):Int)))).size):=(by
  have:=World.block_lt_of_cell? _ _ (hR1 0 _ rfl)
  exact this)
 clear hi hq hlc hl hsd hT hTW hrange hT1
 go_enter Tryz.func118,Tryz.ntmps118
 go_wp2_with fail
 rw [← e1]
 have em:∃ m,m = S.oc + 1:=⟨_,rfl⟩
 obtain ⟨m,hm⟩:=em
 rw [← hm] at hR1 hG1 HT1 hs1 ⊢
 generalize hW1:World.setCell (w.alloc (Obj.cells #[.int .i64 o.id,.int .i64 o.side,.int .i64 o.ticks,.int .i64 o.left,.int .i64 o.life,.string o.tag] 78)) ⟨b,170,none⟩ (.int .i64 (m:Int)) = W1 at hR1 hG1 HT1 hs1 ⊢
 have HM:=hide hm
 have hm21:(m:Int) < 21:=by omega
 obtain ⟨o0,o1,o2,o3,o4,o5⟩:=zD (za hR1)
 obtain ⟨q0,q1,q2,q3,q4,q5,q6⟩:=zcc ((za HT1).qo m (by omega))
 have f2:=(za HT1).fr
 have hlc20:S.lc < 20:=by have:=za HLC; omega
 have HB:=hide hb
 clear hW1 hm e1 c1 f1 hoc' hb
 go_region
 have HT2:=hide (tm_put (za HT1) m (by omega) o)
 have HG2:=hide (gr_put (w:=W1) (b:=b) o m)
 generalize hW2:(((((((W1.setCell ⟨b,171 + m * 7,none⟩ (.int .i64 o.id)).setCell ⟨b,171 + m * 7 + 1,none⟩ (.int .i64 o.side)).setCell ⟨b,171 + m * 7 + 2,none⟩ (.int .i64 o.ticks)).setCell ⟨b,171 + m * 7 + 3,none⟩ (.int .i64 o.left)).setCell
   ⟨b,171 + m * 7 + 4,none⟩ (.int .i64 o.life)).setCell ⟨b,171 + m * 7 + 5,none⟩ (.string o.tag)).setCell ⟨b,171 + m * 7 + 6,none⟩ (.int .i64 0)) = W2 at HT2 HG2 ⊢
 clear hW2 o0 o1 o2 o3 o4 o5 q0 q1 q2 q3 q4 q5 q6 f2
 rw [show ({ root:=S.root,lc:=S.lc,oc:=m,nd:=S.nd,qo:=upd S.qo m ⟨o,0⟩ }:TS) = S.lay o from by rw [za HM]; rfl] at HT2
 have hR2:=hide (zu (za hR1) (za HG2) (za hs1) (fun e=>za HB (Option.some.inj e).symm))
 obtain ⟨o0,o1,o2,o3,o4,o5⟩:=zD (za hR2)
 have HTI:=hide (ti_lay o (za HI))
 have HT2d:Hid (TM 173 W2.drew.drew b (S.lay o)):=zan (za HT2) rfl
 go_wp2_with fail
 go_region_with (go_at_call 122; refine (levelFor_s b (S.lay o) t o W2.drew.drew (za HT2d) (za HTI) hlc20).mono ?_; rintro e W3 ⟨h,rfl,hend⟩; have HE:=hide hend; have hh21:(h:Int) < 21:=lf_lt hend (za HTI) hlc20; clear hend)
 obtain ⟨S3,hT3,hg3,hcase⟩:=za HE
 rw [← za HSD] at HQ
 obtain ⟨r1,r2,r3,r4,r5,t',r6,r7⟩:=add_ready (za HI) (za HQ) hcase
 have R4:=hide r4
 have R6:=hide r6
 have R7:=hide r7
 have R23:Hid ((0:Int) ≤ (S3.nd h).qty∧(S3.nd h).qty ≤ 20000000∧(0:Int) ≤ (S3.nd h).count∧(S3.nd h).count ≤ 20):=by
  have hb:=sumL_bound (atK seq o.ticks) (fun o' ho'=>za HL o' (List.mem_filter.1 ho').1)
  have hle:(atK seq o.ticks).length ≤ seq.length:=List.length_filter_le _ _
  rw [r2,r3]
  refine ⟨hb.1,?_,by omega,by omega⟩
  have:=hb.2
  have h20:((atK seq o.ticks).length:Int) ≤ 20:=by omega
  omega
 have HT3:=hide hT3
 have HG3:Hid (W2.grownBy W3 (some b)):=⟨hg3.os,hg3.tape,hg3.output,hg3.size,hg3.block⟩
 have hR3:=hide (zu (za hR2) (za HG3) (Nat.lt_of_lt_of_le (za hs1) (za HG2).size) (fun e=>za HB (Option.some.inj e).symm))
 have hy21:(S3.nd h).yo < 21:=by omega
 have hm1:m = 1 + seq.length:=by have:=za HM; have:=za HOC; omega
 have HM1:=hide hm1
 clear hT3 hg3 hcase r1 r2 r3 r4 r5 r6 r7 o0 o1 o2 o3 o4 o5 hm1 HE
 have hb3:=(za HT3).fr
 obtain ⟨n0,n1,n2,n3,n4,n5,n6,n7⟩:=zK ((za HT3).nd h (by omega))
 have h21:h < 21:=by omega
 clear n0 n1 n2 n3 n4 n5
 by_cases hy:(S3.nd h).yo = 0
 ·have t5:=zbi (za HT3) h 6 h21 (by omega) (.int .i64 m) { S3.nd h with el:=m } rfl _ rfl
  have t6:=zbi t5 h 7 h21 (by omega) (.int .i64 m) { (TS.nd _ h) with yo:=m } rfl _ rfl
  simp only [zbM,zp] at t6
  obtain ⟨-,-,-,-,-,-,-,k7⟩:=zK (t5.nd h h21)
  have f5:=t5.fr
  rw [hy] at n7
  have HG6:=hide (zL (zL (World.grownBy.refl W3 (some b)) (2 + h * 8 + 6) (.int .i64 m)) (2 + h * 8 + 7) (.int .i64 m))
  have HT6:=hide t6
  clear t5 t6
  go_wp2_with fail
  generalize hW6:(W3.setCell ⟨b,2 + h * 8 + 6,none⟩ (.int .i64 m)).setCell ⟨b,2 + h * 8 + 7,none⟩ (.int .i64 m) = W6 at HG6 HT6 ⊢
  clear HT3 hW6
  have f6:=(za HT6).fr
  obtain ⟨-,-,m2,m3,-⟩:=zK ((za HT6).nd h h21)
  simp only [zp] at m2 m3
  have hR6:=zu (za hR3) (za HG6) (Nat.lt_of_lt_of_le (za hs1) (Nat.le_trans (za HG2).size (za HG3).size)) (fun e=>za HB (Option.some.inj e).symm)
  obtain ⟨-,-,-,x3,-⟩:=zD hR6
  obtain ⟨b1,b2,b3,b4⟩:=za R23
  have t7:=zbi (za HT6) h 2 h21 (by omega) (.int .i64 ((S3.nd h).qty + o.left)) { (TS.nd _ h) with qty:=(S3.nd h).qty + o.left } rfl _ rfl
  have t8:=zbi t7 h 3 h21 (by omega) (.int .i64 ((S3.nd h).count + 1)) { (TS.nd _ h) with count:=(S3.nd h).count + 1 } rfl _ rfl
  obtain ⟨-,-,-,y3,-⟩:=zK (t7.nd h h21)
  have f7:=t7.fr
  simp only [zbM,zp] at t8 y3
  have HT8:=hide t8
  have HG8:=hide (zL (zL (World.grownBy.refl W6 (some b)) (2 + h * 8 + 2) (.int .i64 ((S3.nd h).qty + o.left))) (2 + h * 8 + 3) (.int .i64 ((S3.nd h).count + 1)))
  have hsum:wrap64 ((S3.nd h).qty + o.left) = (S3.nd h).qty + o.left:=by unfold wrap64; omega
  clear t7 t8 hR6
  go_region
  try simp only [IntKind.wrap_i64]
  try rw [show (IntKind.i64.wrap ((S3.nd h).qty + o.left)) = (S3.nd h).qty + o.left from by rw [IntKind.wrap_i64]; exact hsum]
  generalize hW7:W6.setCell ⟨b,2 + h * 8 + 2,none⟩ (.int .i64 ((S3.nd h).qty + o.left)) = W7 at *
  go_wp2_with fail
  go_end0
  have HS8:Hid (_ = S3.link h m o.left):=link_eq0 S3 h m o.left hy
  rw [za HS8] at HT8
  rw [za HM1] at HT8
  refine ⟨rfl,?_,?_⟩
  ·rw [← za HSD]
   refine ⟨_,t',zan (za HT8) rfl,za R6,za R7,?_⟩
   have h1:=za R4
   have h2:=za HLC
   show S3.lc ≤ _
   simp; omega
  ·exact zaW (((((za hG1).trans (za HG2)).trans (za HG3)).trans (za HG6)).trans (za HG8)) rfl rfl rfl rfl
 ·have t5:=tm_qo (za HT3) (S3.nd h).yo 6 hy21 (by omega) (.int .i64 m) { S3.qo (S3.nd h).yo with yg:=m } rfl _ rfl
  have t6:=zbi t5 h 7 h21 (by omega) (.int .i64 m) { (TS.nd _ h) with yo:=m } rfl _ rfl
  obtain ⟨-,-,-,-,-,-,-,k7⟩:=zK (t5.nd h h21)
  obtain ⟨-,-,-,-,-,-,q6⟩:=zcc ((za HT3).qo (S3.nd h).yo hy21)
  have f5:=t5.fr
  have hyi:((S3.nd h).yo:Int) < 21:=by omega
  have hy0:¬ (((S3.nd h).yo:Int) = 0):=by omega
  have HG6:=hide (zL (zL (World.grownBy.refl W3 (some b)) (171 + (S3.nd h).yo * 7 + 6) (.int .i64 m)) (2 + h * 8 + 7) (.int .i64 m))
  have HT6:=hide t6
  clear t5 t6
  go_wp2_with fail
  go_region
  go_wp2_with fail
  generalize hW6:(W3.setCell ⟨b,171 + (S3.nd h).yo * 7 + 6,none⟩ (.int .i64 m)).setCell ⟨b,2 + h * 8 + 7,none⟩ (.int .i64 m) = W6 at HG6 HT6 ⊢
  clear HT3 hW6
  have f6:=(za HT6).fr
  obtain ⟨-,-,m2,m3,-⟩:=zK ((za HT6).nd h h21)
  simp only [zp] at m2 m3
  have hR6:=zu (za hR3) (za HG6) (Nat.lt_of_lt_of_le (za hs1) (Nat.le_trans (za HG2).size (za HG3).size)) (fun e=>za HB (Option.some.inj e).symm)
  obtain ⟨-,-,-,x3,-⟩:=zD hR6
  obtain ⟨b1,b2,b3,b4⟩:=za R23
  have t7:=zbi (za HT6) h 2 h21 (by omega) (.int .i64 ((S3.nd h).qty + o.left)) { (TS.nd _ h) with qty:=(S3.nd h).qty + o.left } rfl _ rfl
  have t8:=zbi t7 h 3 h21 (by omega) (.int .i64 ((S3.nd h).count + 1)) { (TS.nd _ h) with count:=(S3.nd h).count + 1 } rfl _ rfl
  obtain ⟨-,-,-,y3,-⟩:=zK (t7.nd h h21)
  have f7:=t7.fr
  simp only [zbM,zp] at t8 y3
  have HT8:=hide t8
  have HG8:=hide (zL (zL (World.grownBy.refl W6 (some b)) (2 + h * 8 + 2) (.int .i64 ((S3.nd h).qty + o.left))) (2 + h * 8 + 3) (.int .i64 ((S3.nd h).count + 1)))
  have hsum:wrap64 ((S3.nd h).qty + o.left) = (S3.nd h).qty + o.left:=by unfold wrap64; omega
  clear t7 t8 hR6
  go_region
  try simp only [IntKind.wrap_i64]
  try rw [show (IntKind.i64.wrap ((S3.nd h).qty + o.left)) = (S3.nd h).qty + o.left from by rw [IntKind.wrap_i64]; exact hsum]
  generalize hW7:W6.setCell ⟨b,2 + h * 8 + 2,none⟩ (.int .i64 ((S3.nd h).qty + o.left)) = W7 at *
  go_wp2_with fail
  go_end0
  have HS8:Hid (_ = S3.link h m o.left):=link_eq1 S3 h m o.left hy
  rw [za HS8] at HT8
  rw [za HM1] at HT8
  refine ⟨rfl,?_,?_⟩
  ·rw [← za HSD]
   refine ⟨_,t',zan (za HT8) rfl,za R6,za R7,?_⟩
   have h1:=za R4
   have h2:=za HLC
   show S3.lc ≤ _
   simp; omega
  ·exact zaW (((((za hG1).trans (za HG2)).trans (za HG3)).trans (za HG6)).trans (za HG8)) rfl rfl rfl rfl
theorem zNd_s:∀ i,i < 21→(Tryz.zeroCells173.toList.drop (2 + i * 8)).take 8 = zNd.vs
 | 0,_=>by kernel_rfl
 | 1,_=>by kernel_rfl
 | 2,_=>by kernel_rfl
 | 3,_=>by kernel_rfl
 | 4,_=>by kernel_rfl
 | 5,_=>by kernel_rfl
 | 6,_=>by kernel_rfl
 | 7,_=>by kernel_rfl
 | 8,_=>by kernel_rfl
 | 9,_=>by kernel_rfl
 | 10,_=>by kernel_rfl
 | 11,_=>by kernel_rfl
 | 12,_=>by kernel_rfl
 | 13,_=>by kernel_rfl
 | 14,_=>by kernel_rfl
 | 15,_=>by kernel_rfl
 | 16,_=>by kernel_rfl
 | 17,_=>by kernel_rfl
 | 18,_=>by kernel_rfl
 | 19,_=>by kernel_rfl
 | 20,_=>by kernel_rfl
 | n + 21,h=>absurd h (by omega)
theorem zQo_s:∀ i,i < 21→(Tryz.zeroCells173.toList.drop (171 + i * 7)).take 7 = zQo.vs
 | 0,_=>by kernel_rfl
 | 1,_=>by kernel_rfl
 | 2,_=>by kernel_rfl
 | 3,_=>by kernel_rfl
 | 4,_=>by kernel_rfl
 | 5,_=>by kernel_rfl
 | 6,_=>by kernel_rfl
 | 7,_=>by kernel_rfl
 | 8,_=>by kernel_rfl
 | 9,_=>by kernel_rfl
 | 10,_=>by kernel_rfl
 | 11,_=>by kernel_rfl
 | 12,_=>by kernel_rfl
 | 13,_=>by kernel_rfl
 | 14,_=>by kernel_rfl
 | 15,_=>by kernel_rfl
 | 16,_=>by kernel_rfl
 | 17,_=>by kernel_rfl
 | 18,_=>by kernel_rfl
 | 19,_=>by kernel_rfl
 | 20,_=>by kernel_rfl
 | n + 21,h=>absurd h (by omega)
theorem zTree_s (w:World) (sd:Int):zak 173 false (w.alloc (Obj.cells Tryz.zeroCells173 173)) w.heap.size sd [] :=
 ⟨zTS,.nil,tm_zero w _ _ (by kernel_rfl) (by kernel_rfl) zNd_s (by kernel_rfl) zQo_s,ti_zero _,qi_zero _,Nat.le_refl _⟩
set_option maxRecDepth 100000 in
set_option maxHeartbeats 400000 in
theorem plant_s (v:Value) (l:List Od) (sd:Int) (w:World) (hr:RdR Od.vs 6 w v l) (hn:l.length ≤ 20) (hl:∀ o' ∈ l,0 ≤ o'.left∧o'.left ≤ 1000000) :
  Calls Tryz.prog 109 #[v,.int .i64 sd] w fun e w' =>
   e = .returned (.pointer (some ⟨w.heap.size,0,none⟩))∧zak 173 false w' w.heap.size sd (zz l sd)∧Below w.heap.size w w':=by
 obtain ⟨a,cap,rfl,hlen,hc⟩:=hr
 have hcell:∀ (k:Nat) (c:Od),l[k]? = some c→∃ b off,a = some ⟨b,off,none⟩∧b < w.heap.size∧w.rangeAt b (off + k * 6) c.vs:=by
  intro k c hk
  obtain ⟨b,off,h1,h2,h3⟩:=hc (by intro h; rw [h] at hk; simp at hk)
  exact ⟨b,off,h1,h2,h3 k c hk⟩
 have HC:=hide hcell
 have HL:=hide hl
 have HN:=hide hn
 clear hcell hc hl
 have HZ:=hide (zTree_s w sd)
 have HB0:Hid (Below w.heap.size w (w.alloc (Obj.cells Tryz.zeroCells173 173))):=(Below.refl _ _).alloc (Nat.le_refl _) _
 go_enter Tryz.func109,Tryz.ntmps109
 go_wp2_with fail
 generalize (w.alloc (Obj.cells Tryz.zeroCells173 173)) = W0 at HZ HB0 ⊢
 go_loopw [11] (fun i wr=>∃ k:Nat,k ≤ l.length∧i = .int .i64 k∧zak 173 false wr w.heap.size sd (zz (l.take k) sd)∧Below w.heap.size w wr) (fun i _=>l.length - (intOf i).toNat)
 case atStart=>exact ⟨0,Nat.zero_le _,rfl,za HZ,za HB0⟩
 case round =>
  obtain ⟨k,hk,rfl,htr,hbel⟩:=hrel
  have HTR:=hide htr
  have HBE:=hide hbel
  clear htr hbel HZ HB0
  by_cases hlt:k < l.length
  ·obtain ⟨c,hkc⟩:∃ c,l[k]? = some c:=⟨_,List.getElem?_eq_getElem hlt⟩
   have HKC:=hide hkc
   obtain ⟨b,off,rfl,hb,hcl⟩:=za HC k c hkc
   obtain ⟨g0,g1,g2,g3,g4,g5⟩:=zD (zb hcl (za HBE) hb)
   have hlt':(k:Int) < l.length:=by omega
   clear hkc hcl hb
   by_cases hsd:c.side = sd
   ·have HIT:Hid (zz (l.take (k + 1)) c.side = zz (l.take k) c.side ++ [c]):=ofSide_snoc l k c (za HKC)
    subst hsd
    have hlk:(zz (l.take k) c.side).length < 20:=by
     have h1:(zz (l.take k) c.side).length ≤ (l.take k).length:=List.length_filter_le _ _
     have h2:(l.take k).length ≤ k:=List.length_take_le _ _
     have h3:=za HN
     omega
    have HLK:=hide hlk
    have hcl:=za HL c (List.mem_of_getElem? (za HKC))
    have HCL:=hide hcl
    clear hlk hcl
    go_wp2_with fail
    refine (add_s w.heap.size c.side (zz (l.take k) c.side) c _ (zG (za HTR) (Below.heap_alloc wr _ _ (zaf (za HTR)))) rfl (za HLK) (fun o' ho'=>za HL o' (List.mem_of_mem_take (List.mem_filter.1 ho').1)) (za HCL)).mono ?_
    rintro e w2 ⟨rfl,htr2,hg2⟩
    rw [← za HIT] at htr2
    have HTR2:=hide htr2
    have HB2:=hide (((za HBE).alloc (za HBE).size _).grown hg2 (by rw [ze]; have:=(za HBE).size; omega) (fun g hg=>by obtain rfl:=Option.some.inj hg; exact Nat.le_refl _))
    clear htr2 hg2
    go_wp2_with fail
    go_roundw
    case rel=>exact ⟨k + 1,by omega,by go_num,za HTR2,za HB2⟩
    case measure=>simp [intOf]; omega
   ·have HIT:Hid (zz (l.take (k + 1)) sd = zz (l.take k) sd):=ofSide_skip l k c (za HKC) hsd
    go_wp2_with fail
    go_roundw
    case rel =>
     refine ⟨k + 1,by omega,by go_num,?_,?_⟩
     ·rw [za HIT]; exact zG (za HTR) (Below.heap_alloc wr _ _ (zaf (za HTR)))
     ·exact (za HBE).alloc (za HBE).size _
    case measure=>simp [intOf]; omega
  ·go_wp2_with fail
   go_ret
   have h:=za HTR
   rw [List.take_of_length_le (by omega)] at h
   exact ⟨rfl,h,za HBE⟩
theorem infoH_s:(Tryz.prog.info? 161).map (fun i=>(i.zero,i.size,i.bytes)) = some (some (.int .i64 0),1,8):=by kernel_rfl
theorem cellsH_s (w:World) (cs:List Value) (t:TypeId) (j:Nat) (u:Value) (h:cs[j]? = some u):(w.alloc (Obj.cells cs.toArray t)).cell? ((⟨w.heap.size,0,none⟩:Addr).add j) = some u:=by
 rw [Addr.add_mid,cell_of_row _ w.heap.size (0 + j) cs.toArray t (0,0) (heap_alloc_new w _)]
 simpa using h
def hval_s (h:Nat):Value:=.int .i64 h
set_option maxRecDepth 100000 in
set_option maxHeartbeats 400000 in
theorem ranked_s (S:TS) (b B:Nat) (hbB:b < B):∀ (t:Tr) (w:World) (v:Value) (done:List Nat) (part:Nat),TM 173 w b S→Rep S.nd t part→(∀ h ∈ t.hs,h < 21)→B ≤ w.heap.size →
  w.ownsRow B 161 1 v done.length (done.map hval_s)→done.length + t.hs.length ≤ 1000 →
  Calls Tryz.prog 121 #[.pointer (some ⟨b,0,none⟩),v,.int .i64 part] w fun e w' =>
   ∃ v',e = .returned v'∧w'.ownsRow B 161 1 v' (done ++ t.hs).length ((done ++ t.hs).map hval_s)∧Below B w w'
 | .nil,w,v,done,part,hT,hrep,hh,hB,hown,hlen=>by
  obtain rfl:part = 0:=hrep
  have HO:=hide hown
  clear hown hT hh
  go_enter Tryz.func121,Tryz.ntmps121
  go_wp2_with fail
  go_ret
  exact ⟨v,rfl,by simpa [Tr.hs] using za HO,Below.refl _ _⟩
 | .node h l r,w,v,done,part,hT,hrep,hh,hB,hown,hlen=>by
  obtain ⟨rfl,h0,hl,hr⟩:=hrep
  have HO:=hide hown
  have HT:=hide hT
  have HL:=hide hl
  have HR:=hide hr
  have hlen':done.length + (l.hs.length + 1 + r.hs.length) ≤ 1000:=by simp [Tr.hs] at hlen; omega
  have h21:=hh part (by simp [Tr.hs])
  have HHL:=hide (fun a (ha:a ∈ l.hs)=>hh a (by simp [Tr.hs,ha]))
  have HHR:=hide (fun a (ha:a ∈ r.hs)=>hh a (by simp [Tr.hs,ha]))
  have h21':(part:Int) < 21:=by omega
  have h0':¬ ((part:Int) = 0):=by omega
  have HLEN:=hide hlen'
  obtain ⟨-,-,-,-,n4,-⟩:=zK (hT.nd part h21)
  obtain ⟨i0,hi,hz0,hz1,hz2⟩:=info_parts infoH_s
  clear hown hT hh hl hr hlen hlen'
  go_enter Tryz.func121,Tryz.ntmps121
  go_wp2_with fail
  refine (ranked_s S b B hbB l w v done _ (za HT) (za HL) (za HHL) hB (za HO) (by have:=za HLEN; omega)).mono ?_
  rintro e w1 ⟨v1,rfl,ho1,hb1⟩
  have HO1:=hide ho1
  have HB1:=hide hb1
  have hsz1:=hb1.size
  have hla:(done ++ l.hs).length ≤ 999:=by have:=za HLEN; rw [List.length_append]; omega
  obtain ⟨-,-,-,-,-,n5,-⟩:=zK ((zby (za HT) hb1 hbB).nd part h21)
  clear ho1 hb1 n4
  go_wp2_with (at_builtin; go_must (refine wpList_append_own _ rfl _ _ 175 rfl B 161 i0 _ 1 8 Tryz.underlying175 hi hz0 hz1 hz2 rfl (by decide) v1 (done ++ l.hs).length ((done ++ l.hs).map hval_s) rfl ((za HO1).alloc _) ⟨w1.heap.size,0,none⟩ 1 1 [hval_s part] rfl rfl (cellsH_s w1 _ _) (by simp [Value.oneCell',hval_s]) (by unfold maxLen; omega) (by omega) (by simp at hla ⊢; omega) ?_); intro v2 w2 hown2 hg2 _; have HO2:=hide hown2; have HB2:=hide (((za HB1).alloc (Nat.le_trans hB hsz1) _).grown hg2 (by rw [ze]; omega) (fun k hk=>((za HO1).lt k hk).1)); have m5:=(zK ((zby (za HT) (za HB2) hbB).nd part h21)).2.2.2.2.2.1; clear hown2 hg2 n5)
  have hsz2:=(za HB2).size
  refine (ranked_s S b B hbB r w2 v2 (done ++ l.hs ++ [part]) _ (zby (za HT) (za HB2) hbB) (za HR) (za HHR) (by omega) (by simpa [Nat.add_assoc] using za HO2) (by have:=za HLEN; simp; omega)).mono ?_
  rintro e w3 ⟨v3,rfl,ho3,hb3⟩
  have HO3:=hide ho3
  have HB3:=hide ((za HB2).trans hb3)
  clear ho3 hb3 m5
  go_wp2_with fail
  go_ret
  exact ⟨v3,rfl,by simpa [Tr.hs] using za HO3,za HB3⟩
theorem infoLv_s:(Tryz.prog.info? 163).map (fun i=>(i.zero,i.size,i.bytes)) = some (some (.agg #[.int .i64 0,.int .i64 0,.int .i64 0,.int .i64 0]),4,32):=by kernel_rfl
theorem takeR_s {α:Type} (l:List α) (k:Nat) (c:α) (h:l[k]? = some c):l.take (k + 1) = l.take k ++ [c]:=by
 obtain ⟨hk,rfl⟩:=List.getElem?_eq_some_iff.1 h
 rw [List.take_succ_eq_append_getElem hk]
theorem rowBase_s {W:World} {B B':Nat} {e:TypeId} {sz:Nat} {v:Value} {n:Nat} {xs:List Value} (h:W.ownsRow B e sz v n xs) (hB:B' ≤ B):W.ownsRow B' e sz v n xs :=
 ⟨h.1,by
  rcases h.2 with h1 | ⟨g',c',cur,h1,h2,h3⟩
  ·exact .inl h1
  ·exact .inr ⟨g',c',cur,h1,Nat.le_trans hB h2,h3⟩⟩
theorem flat1_s (l:List Nat):(l.flatMap fun h=>[hval_s h]) = l.map hval_s:=by
 induction l with
 | nil=>rfl
 | cons a r ih=>rw [List.flatMap_cons,ih]; rfl
set_option maxRecDepth 100000 in
set_option maxHeartbeats 400000 in
theorem levelsO_s (b:Nat) (sd:Int) (seq:List Od) (w:World) (h:zak 173 false w b sd seq) (hn:seq.length ≤ 20) :
  Calls Tryz.prog 117 #[.pointer (some ⟨b,0,none⟩)] w fun e w' =>
   ∃ v',e = .returned v'∧w'.ownsRow w.heap.size 163 4 v' (zbg false sd seq).length ((zbg false sd seq).flatMap Lv.vs)∧Below w.heap.size w w':=by
 obtain ⟨S,t,hT,hi,hq,hlc⟩:=h
 have hlv:=zbL hi hq
 rw [← hlv]
 have hh21:∀ a ∈ t.hs,a < 21:=fun a ha=>by have:=(hi.range a ha).2; omega
 have hlen:t.hs.length ≤ 20:=by rw [hi.len]; omega
 have HT:=hide hT
 have HR:=hide hi.rep
 have HH:=hide hh21
 have hroot:=hT.root
 have hbs:=tm_lt hT
 generalize ht:t.hs = hs at *
 have HHS:=hide ht
 have HNIL:=hide (World.ownsRow_nil w w.heap.size 161 1)
 obtain ⟨i0,hi0,hz0,hz1,hz2⟩:=info_parts infoLv_s
 clear hi hq hlc hlv hT hh21 ht
 go_enter Tryz.func117,Tryz.ntmps117
 go_wp2_with fail
 refine (ranked_s S b w.heap.size hbs t w _ [] S.root (za HT) (za HR) (by rw [za HHS]; exact za HH) (Nat.le_refl _) (za HNIL) (by rw [za HHS]; simp; omega)).mono ?_
 rintro e w1 ⟨v1,rfl,ho1,hb1⟩
 rw [List.nil_append,za HHS] at ho1
 have HB1:=hide hb1
 have HOR:=hide (zaX (f:=fun h=>[hval_s h]) (fun _=>rfl) (by omega) (show w1.ownsRow w.heap.size 161 1 v1 hs.length (hs.flatMap fun h=>[hval_s h]) by rw [flat1_s]; exact ho1))
 obtain ⟨a,cap,rfl,_,hc⟩:=za HOR
 have hcell:∀ k h,hs[k]? = some h→∃ g,a = some ⟨g,0,none⟩∧g < w1.heap.size∧w1.cell? ⟨g,0 + k * 1 + 0,none⟩ = some (.int .i64 (h:Nat)):=fun k h hk=>by
  obtain ⟨g,h1,_,h3,h4,_⟩:=hc (by intro e; rw [e] at hk; simp at hk)
  exact ⟨g,h1,h3,h4 k h hk 0 _ rfl⟩
 have HC:=hide hcell
 clear ho1 hb1 hc hcell hroot
 go_wp2_with fail
 have hb1:=(za HB1).size
 go_loopw [3,13] (fun ov iv wr=>∃ (k:Nat) (done:List Lv),k ≤ hs.length∧iv = .int .i64 k∧Hid (done = (hs.map fun h=>(S.nd h).lv).take k)∧wr.ownsRow w1.heap.size 163 4 ov done.length (done.flatMap Lv.vs)∧Below w1.heap.size w1 wr) (fun _ iv _=>hs.length - (intOf iv).toNat)
 case atStart=>exact ⟨0,[],Nat.zero_le _,rfl,by simp [Hid],World.ownsRow_nil _ _ _ _,Below.refl _ _⟩
 case round =>
  obtain ⟨k,done,hk,rfl,hd,hown,hbel⟩:=hrel
  have HOW:=hide hown
  have HB:=hide hbel
  have hdl:done.length = k:=by rw [za hd,List.length_take,List.length_map]; omega
  clear hown hbel
  by_cases hlt:k < hs.length
  ·obtain ⟨h,hkh⟩:∃ h,hs[k]? = some h:=⟨_,List.getElem?_eq_getElem hlt⟩
   have HKC:Hid ((hs.map fun h=>(S.nd h).lv)[k]? = some (S.nd h).lv):=by show _ = _; rw [List.getElem?_map,hkh]; rfl
   obtain ⟨g,rfl,hg,hcl⟩:=za HC k h hkh
   have h21:=za HH h (List.mem_of_getElem? hkh)
   have h21':(h:Int) < 21:=by omega
   have hcl':=((za HB).cell (p:=⟨g,0 + k * 1 + 0,none⟩) hg).trans hcl
   rw [show 0 + k * 1 + 0 = k by omega] at hcl'
   have hTr:=zby (za HT) ((za HB1).trans ((za HB).mono hb1)) hbs
   obtain ⟨n0,n1,n2,n3,-⟩:=zK (hTr.nd h h21)
   have hlt':(k:Int) < hs.length:=by omega
   have hsr:=(za HB).size
   clear hkh hcl hTr hg
   go_wp2_with (at_builtin; go_must (refine wpList_append_own _ rfl _ _ 174 rfl w1.heap.size 163 i0 _ 4 32 Tryz.underlying174 hi0 hz0 hz1 hz2 rfl (by decide) _ done.length (done.flatMap Lv.vs) rfl ((za HOW).alloc _) ⟨wr.heap.size,0,none⟩ 1 1 (S.nd h).lv.vs rfl rfl (cellsH_s wr _ _) (by simp [Value.oneCell',Lv.vs,Nd.lv]) (by unfold maxLen; omega) (by omega) (by simp; omega) ?_); intro v4 w4 hown4 hg4 _)
   go_roundw
   case rel =>
    refine ⟨k + 1,done ++ [(S.nd h).lv],by omega,by go_num,?_,?_,?_⟩
    ·show done ++ [(S.nd h).lv] = _
     rw [takeR_s _ k _ (za HKC),← za hd]
    ·simpa using hown4
    ·exact ((za HB).alloc hsr _).grown hg4 (by simp; omega) fun k hk=>((za HOW).lt k hk).1
   case measure=>simp [intOf]; omega
  ·go_wp2_with fail
   go_ret
   have h:=za hd
   rw [List.take_of_length_le (by rw [List.length_map]; omega)] at h
   subst h
   exact ⟨_,rfl,rowBase_s (za HOW) hb1,(za HB1).trans ((za HB).mono hb1)⟩
theorem levels_s (b:Nat) (sd:Int) (seq:List Od) (w:World) (h:zak 173 false w b sd seq) (hn:seq.length ≤ 20) :
  Calls Tryz.prog 117 #[.pointer (some ⟨b,0,none⟩)] w fun e w' =>
   ∃ v',e = .returned v'∧OwnR Lv.vs 4 w.heap.size w' v' (zbg false sd seq)∧Below w.heap.size w w':=by
 have hlen:(zbg false sd seq).length ≤ 20:=by
  obtain ⟨S,t,hT,hi,hq,hlc⟩:=h
  rw [← zbL hi hq,List.length_map,hi.len]; omega
 refine (levelsO_s b sd seq w h hn).mono ?_
 rintro e w' ⟨v',rfl,ho,hb⟩
 exact ⟨v',rfl,zaX Lv.len (by omega) ho,hb⟩
end Go.Proofs.YtopjoogdpjaocaaGreat
