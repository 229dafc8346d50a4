/-
  A book that came in, opened: its number, and its slice of orders, which reads as a row of orders.
-/
import Derived.Test.YtdfihaabhichdaaGreatSj04
import Derived.Test.YtdfihaabhichdaaGreatSj05
import Derived.Test.YtdfihaabhichdaaGreatSj46
import Derived.Test.YtdfihaabhichdaaGreatSj47
import Derived.Deep.Slices
import Derived.ChangeArms
import Derived.OpenShut
import Derived.LoopN
namespace Go.Proofs.YtdfihaabhichdaaGreat
open Go.RowKit Go.ChangeShapes Go.WideShapes Go.Deep
set_option linter.unusedVariables false

structure Od.ok (c:Od):Prop where
  id:(Lit.int .i64 c.id).wf = true
  side:(Lit.int .i64 c.side).wf = true
  ticks:(Lit.int .i64 c.ticks).wf = true
  left:(Lit.int .i64 c.left).wf = true
  life:(Lit.int .i64 c.life).wf = true
  tag:c.tag.size ≤ maxLen
section
variable {H:Type} {enc:TypeId × Value→H} {w:World} {base:Nat} {spare:Nat→Bool} {held:Bool}

theorem list6 {cs:List Value} (h:cs.length = 6):∃ v0 v1 v2 v3 v4 v5,cs = [v0,v1,v2,v3,v4,v5] :=
  match cs,h with
  | [v0,v1,v2,v3,v4,v5],_=>⟨v0,v1,v2,v3,v4,v5,rfl⟩
theorem od_opened {fuel:Nat} {cs:List Value} {x:DataW H × List MemPlace} (h:DataW.trod enc Tryz.prog w base spare held fuel 98 cs = some x):∃ c:Od,cs = c.vs∧c.ok:=by
  obtain ⟨xs,n,_,_,hlen,hxl,hf⟩:=DataW.trod_struct Tryz.underlying98 h
  have hl6:cs.length = 6:=hlen.trans (by kernel_rfl)
  have k3:Tryz.prog.cellsOf 3 = 1:=by kernel_rfl
  have k9:Tryz.prog.cellsOf 9 = 1:=by kernel_rfl
  have hx:∀ i,i < 6→∃ y,xs[i]? = some y:=fun i hi=>⟨_,List.getElem?_eq_getElem (by rw [hxl]; exact hi)⟩
  obtain ⟨y0,e0⟩:=hx 0 (by omega)
  obtain ⟨y1,e1⟩:=hx 1 (by omega)
  obtain ⟨y2,e2⟩:=hx 2 (by omega)
  obtain ⟨y3,e3⟩:=hx 3 (by omega)
  obtain ⟨y4,e4⟩:=hx 4 (by omega)
  obtain ⟨y5,e5⟩:=hx 5 (by omega)
  have f0:DataW.trod enc Tryz.prog w base spare held n 3 ((cs.drop 0).take (Tryz.prog.cellsOf 3)) = some y0:=(hf 0 _ rfl).trans e0
  have f1:DataW.trod enc Tryz.prog w base spare held n 3 ((cs.drop 1).take (Tryz.prog.cellsOf 3)) = some y1:=(hf 1 _ rfl).trans e1
  have f2:DataW.trod enc Tryz.prog w base spare held n 3 ((cs.drop 2).take (Tryz.prog.cellsOf 3)) = some y2:=(hf 2 _ rfl).trans e2
  have f3:DataW.trod enc Tryz.prog w base spare held n 3 ((cs.drop 3).take (Tryz.prog.cellsOf 3)) = some y3:=(hf 3 _ rfl).trans e3
  have f4:DataW.trod enc Tryz.prog w base spare held n 3 ((cs.drop 4).take (Tryz.prog.cellsOf 3)) = some y4:=(hf 4 _ rfl).trans e4
  have f5:DataW.trod enc Tryz.prog w base spare held n 9 ((cs.drop 5).take (Tryz.prog.cellsOf 9)) = some y5:=(hf 5 _ rfl).trans e5
  clear hf hx e0 e1 e2 e3 e4 e5 h hlen
  obtain ⟨v0,v1,v2,v3,v4,v5,rfl⟩:=list6 hl6
  clear hl6
  simp only [k3,k9,List.drop_zero,List.drop_succ_cons,List.take_succ_cons,List.take_zero] at f0 f1 f2 f3 f4 f5
  obtain ⟨n0,c0,_,b0⟩:=DataW.trod_int Tryz.underlying3 f0
  obtain ⟨n1,c1,_,b1⟩:=DataW.trod_int Tryz.underlying3 f1
  obtain ⟨n2,c2,_,b2⟩:=DataW.trod_int Tryz.underlying3 f2
  obtain ⟨n3,c3,_,b3⟩:=DataW.trod_int Tryz.underlying3 f3
  obtain ⟨n4,c4,_,b4⟩:=DataW.trod_int Tryz.underlying3 f4
  obtain ⟨n5,c5,_,b5⟩:=DataW.trod_string Tryz.underlying9 f5
  simp only [List.cons.injEq,and_true] at c0 c1 c2 c3 c4 c5
  subst c0 c1 c2 c3 c4 c5
  exact ⟨⟨n0,n1,n2,n3,n4,n5⟩,rfl,⟨b0,b1,b2,b3,b4,b5⟩⟩
def IsOrders (w:World) (a:Option Addr) (len cap:Nat):Prop :=
  len ≤ maxLen∧(len ≤ 1073741824→∃ l:List Od,l.length = len∧RdR Od.vs 6 w (.slice a len cap) l∧∀ c ∈ l,c.ok)
theorem orders_opened {fuel:Nat} {cs:List Value} {x:DataW H × List MemPlace} (h:DataW.trod enc Tryz.prog w base spare held fuel 22 cs = some x):∃ a len cap,cs = [.slice a len cap]∧IsOrders w a len cap:=by
  rcases open_slice Tryz.underlying22 h with ⟨hcs,_⟩ | ⟨ad,len,cap,m,n,D,Pl,hcs,_,hl,hm,hmm,_,hel⟩
  · exact ⟨none,0,0,hcs,Nat.zero_le _,fun _=>⟨[],rfl,⟨none,0,rfl,by simp,fun h=>absurd rfl h⟩,by simp⟩⟩
  · refine ⟨some ad,len,cap,hcs,?_⟩
    have k37:Tryz.prog.cellsOf 98 = 6:=by kernel_rfl
    rw [k37] at hel
    have hlm:len ≤ m:=by rw [hmm]; split <;> omega
    refine ⟨by omega,fun hb=>?_⟩
    have hc:∀ i,i < len→∃ c:Od,c.ok∧∀ j v,c.vs[j]? = some v→w.cell? (ad.add (i * 6 + j)) = some v:=by
      intro i hi
      obtain ⟨cs',h1,h2⟩:=hel i (by omega)
      obtain ⟨c,rfl,hok⟩:=od_opened h2
      obtain ⟨_,_,hcell⟩:=World.cells?_some h1
      refine ⟨c,hok,fun j v hv=>?_⟩
      have:=hcell j (List.getElem?_eq_some_iff.1 hv).1
      rw [add_add] at this
      rw [this,hv]
    have hb0:0 < len→∃ b off,ad = ⟨b,off,none⟩∧b < w.heap.size:=by
      intro hp
      obtain ⟨c,_,h0⟩:=hc 0 hp
      have h0:=h0 0 _ rfl
      obtain ⟨b,off,spot⟩:=ad
      have hspot:spot = none:=by simpa [Addr.add] using World.cell?_spot h0
      subst hspot
      exact ⟨b,off,rfl,by have:=World.block_lt_of_cell? w _ h0; simpa [Addr.add] using this⟩
    haveI:Inhabited Od:=⟨zOd⟩
    obtain ⟨F,hF⟩:=choose_lt hc
    have hget:∀ i c,((List.range len).map F)[i]? = some c→i < len∧c = F i:=by
      intro i c hi
      have hlt:i < len:=by simpa using (List.getElem?_eq_some_iff.1 hi).1
      refine ⟨hlt,?_⟩
      rw [List.getElem?_map,List.getElem?_range hlt] at hi
      simpa using hi.symm
    refine ⟨(List.range len).map F,by simp,⟨some ad,cap,by simp,by simpa using hb,fun hne=>?_⟩,fun c hcm=>?_⟩
    · have hp:0 < len:=by
        rcases Nat.eq_zero_or_pos len with h0 | h0
        · subst h0; simp at hne
        · exact h0
      obtain ⟨b,off,rfl,hlt⟩:=hb0 hp
      refine ⟨b,off,rfl,hlt,fun i c hi j v hv=>?_⟩
      obtain ⟨hi',rfl⟩:=hget i c hi
      have:=(hF i hi').2 j v hv
      rw [Addr.add_mid] at this
      rw [Nat.add_assoc]; exact this
    · obtain ⟨i,hi⟩:=List.mem_iff_getElem?.1 hcm
      obtain ⟨hi',rfl⟩:=hget i c hi
      exact (hF i hi').1
theorem list_two {cs:List Value} (h:cs.length = 2):∃ v0 v1,cs = [v0,v1]:=match cs,h with
  | [v0,v1],_=>⟨v0,v1,rfl⟩
theorem book_opened {fuel:Nat} {cs:List Value} {x:DataW H × List MemPlace} (h:DataW.trod enc Tryz.prog w base spare held fuel 24 cs = some x):∃ n a len cap,cs = [.int .i64 n,.slice a len cap]∧(Lit.int .i64 n).wf = true∧IsOrders w a len cap:=by
  obtain ⟨xs,k,_,_,hlen,hxl,hf⟩:=DataW.trod_struct Tryz.underlying24 h
  have hl2:cs.length = 2:=hlen.trans (by kernel_rfl)
  have k3:Tryz.prog.cellsOf 3 = 1:=by kernel_rfl
  have k9:Tryz.prog.cellsOf 22 = 1:=by kernel_rfl
  have hx:∀ i,i < 2→∃ y,xs[i]? = some y:=fun i hi=>⟨_,List.getElem?_eq_getElem (by rw [hxl]; exact hi)⟩
  obtain ⟨y0,e0⟩:=hx 0 (by omega)
  obtain ⟨y1,e1⟩:=hx 1 (by omega)
  have f0:DataW.trod enc Tryz.prog w base spare held k 3 ((cs.drop 0).take (Tryz.prog.cellsOf 3)) = some y0:=(hf 0 _ rfl).trans e0
  have f1:DataW.trod enc Tryz.prog w base spare held k 22 ((cs.drop 1).take (Tryz.prog.cellsOf 22)) = some y1:=(hf 1 _ rfl).trans e1
  obtain ⟨v0,v1,rfl⟩:=list_two hl2
  simp only [k3,k9,List.drop_zero,List.drop_succ_cons,List.take_succ_cons,List.take_zero] at f0 f1
  obtain ⟨n,c0,_,b0⟩:=DataW.trod_int Tryz.underlying3 f0
  obtain ⟨a,len,cap,c1,ho⟩:=orders_opened f1
  simp only [List.cons.injEq,and_true] at c0 c1
  subst c0 c1
  exact ⟨n,a,len,cap,rfl,b0,ho⟩
end
end Go.Proofs.YtdfihaabhichdaaGreat
namespace Go.Proofs.YtdfihaabhichdaaGreat
open Go.RowKit
set_option linter.unusedVariables false

set_option maxHeartbeats 400000 in
theorem toOrderS_nil (a:Option Addr) (cap:Nat) (w:World) :
    Calls Tryz.prog 36 #[.slice a 0 cap] w fun e w'=>∃ ad cp,e = .returned (.slice (some ad) 0 cp)∧Below w.heap.size w w':=by
  obtain ⟨i0,hi,hz0,hz1,hz2⟩:=info_parts Tryz.infoOrder
  go_enter Tryz.func36,Tryz.ntmps36
  go_wp2_with (at_make; go_must (refine wpList_make_full _ rfl _ _ 30 rfl w.heap.size 100 i0 _ 6 Tryz.underlying30 hi hz0 hz1 _ _ _ _ 0 rfl rfl rfl rfl (by rw [hz2]; omega) (by unfold maxLen; omega) (Nat.le_refl _) ?_); intro w1 hown hgrow)
  have HB:=hide ((Below.refl w.heap.size w).grown hgrow (Nat.le_refl _) (fun k hk=>by cases hk))
  clear hown hgrow
  refine wp_loop_rounds 1 ?_
  rw [rounds_succ]
  go_wp2_with fail
  go_ret
  exact ⟨_,_,rfl,za HB⟩
set_option maxHeartbeats 400000 in
theorem toBook_nil (n:Int) (a:Option Addr) (cap:Nat) (w:World) :
    Calls Tryz.prog 9 #[.agg #[.int .i64 n,.slice a 0 cap]] w fun e w'=>∃ ad cp,e = .returned (.agg #[.int .i64 n,.slice (some ad) 0 cp])∧Below w.heap.size w w':=by
  have hs1:(w.alloc (Obj.cells #[.int .i64 n,.slice a 0 cap] 24)).heap.size = w.heap.size + 1:=ze _ _
  have hs2:((w.alloc (Obj.cells #[.int .i64 n,.slice a 0 cap] 24)).alloc (Obj.cells #[.int .i64 0,.slice none 0 0] 32)).heap.size = w.heap.size + 1 + 1:=by rw [ze,hs1]
  have r1:=zh (w.alloc (Obj.cells #[.int .i64 n,.slice a 0 cap] 24)) [.int .i64 0,.slice none 0 0] 32
  have r2:=zh ((w.alloc (Obj.cells #[.int .i64 n,.slice a 0 cap] 24)).alloc (Obj.cells #[.int .i64 0,.slice none 0 0] 32)) [.int .i64 n,.slice none 0 0] 32
  have t1:=zaj (n:=2) (heap_alloc_new (w.alloc (Obj.cells #[.int .i64 n,.slice a 0 cap] 24)) (Obj.cells #[.int .i64 0,.slice none 0 0] 32)) (by simp)
  have t2:=zaj (n:=2) (heap_alloc_new ((w.alloc (Obj.cells #[.int .i64 n,.slice a 0 cap] 24)).alloc (Obj.cells #[.int .i64 0,.slice none 0 0] 32)) (Obj.cells #[.int .i64 n,.slice none 0 0] 32)) (by simp)
  rw [hs1] at r1 t1
  rw [hs2] at r2 t2
  have HB0:Hid (Below w.heap.size w (((w.alloc (Obj.cells #[.int .i64 n,.slice a 0 cap] 24)).alloc (Obj.cells #[.int .i64 0,.slice none 0 0] 32)).alloc (Obj.cells #[.int .i64 n,.slice none 0 0] 32))) :=
    (((Below.refl _ _).alloc (Nat.le_refl _) _).alloc (by rw [hs1]; omega) _).alloc (by rw [hs2]; omega) _
  have hs3:(((w.alloc (Obj.cells #[.int .i64 n,.slice a 0 cap] 24)).alloc (Obj.cells #[.int .i64 0,.slice none 0 0] 32)).alloc (Obj.cells #[.int .i64 n,.slice none 0 0] 32)).heap.size = w.heap.size + 1 + 1 + 1:=by rw [ze,hs2]
  have r1':=zb r1 (C:=w.heap.size + 1 + 1) (((Below.refl _ _).alloc (by rw [hs2]; omega) (Obj.cells #[.int .i64 n,.slice none 0 0] 32))) (by omega)
  have t1':=zf t1 (C:=w.heap.size + 1 + 1) (((Below.refl _ _).alloc (by rw [hs2]; omega) (Obj.cells #[.int .i64 n,.slice none 0 0] 32))) (by omega)
  have HX:Hid (_∧_∧_∧_):=⟨r1',t1',r2,t2⟩
  have HS3:=hide hs3
  clear r1 t1 r1' t1' r2 t2 hs1 hs2 hs3
  go_enter Tryz.func9,Tryz.ntmps9
  go_wp2_with fail
  generalize hW3:(((w.alloc (Obj.cells #[.int .i64 n,.slice a 0 cap] 24)).alloc (Obj.cells #[.int .i64 0,.slice none 0 0] 32)).alloc (Obj.cells #[.int .i64 n,.slice none 0 0] 32)) = W3 at HB0 HX HS3 ⊢
  clear hW3
  refine (toOrderS_nil a cap _).mono ?_
  rintro e w1 ⟨ad',cap',rfl,hb1⟩
  have HB:=hide hb1
  obtain ⟨x1,x2,x3,x4⟩:=za HX
  have y1:=zb x1 hb1 (by rw [za HS3]; omega)
  have y2:=zf x2 hb1 (by rw [za HS3]; omega)
  have y3:=zb x3 hb1 (by rw [za HS3]; omega)
  have y4:=zf x4 hb1 (by rw [za HS3]; omega)
  have c0:w1.cell? ⟨w.heap.size + 1,0,none⟩ = some (.int .i64 0):=y1 0 _ rfl
  have c1:w1.cell? ⟨w.heap.size + 1,1,none⟩ = some (.slice none 0 0):=y1 1 _ rfl
  have c2:w1.cell? ⟨w.heap.size + 1 + 1,0,none⟩ = some (.int .i64 n):=y3 0 _ rfl
  have c3:w1.cell? ⟨w.heap.size + 1 + 1,1,none⟩ = some (.slice none 0 0):=y3 1 _ rfl
  have f0:w1.frozen? ⟨w.heap.size + 1,0,none⟩ = false:=(y2 0 (by omega)).2
  have f1:w1.frozen? ⟨w.heap.size + 1,1,none⟩ = false:=(y2 1 (by omega)).2
  have f2:w1.frozen? ⟨w.heap.size + 1 + 1,0,none⟩ = false:=(y4 0 (by omega)).2
  have f3:w1.frozen? ⟨w.heap.size + 1 + 1,1,none⟩ = false:=(y4 1 (by omega)).2
  clear hb1 x1 x2 x3 x4 y1 y2 y3 y4
  go_wp2_with fail
  have hne:(⟨w.heap.size + 1,0,none⟩:Addr) ≠ ⟨w.heap.size + 1,1,none⟩:=fun e=>by simp at e
  have hnb:∀ i j,(⟨w.heap.size + 1 + 1,i,none⟩:Addr) ≠ ⟨w.heap.size + 1,j,none⟩:=fun i j e=>by have:=congrArg Addr.block e; simp at this
  have d1:(((w1.setCell ⟨w.heap.size + 1 + 1,1,none⟩ (.slice (some ad') 0 cap')).setCell ⟨w.heap.size + 1,0,none⟩ (.int .i64 n)).setCell ⟨w.heap.size + 1,1,none⟩ (.slice (some ad') 0 cap')).cell? ⟨w.heap.size + 1,1,none⟩ = some (.slice (some ad') 0 cap') :=
    World.cell?_setCell_same _ _ _ ((World.cell?_setCell_other _ _ _ _ hne).trans ((World.cell?_setCell_other _ _ _ _ (hnb 1 1)).trans c1))
  have d0:(((w1.setCell ⟨w.heap.size + 1 + 1,1,none⟩ (.slice (some ad') 0 cap')).setCell ⟨w.heap.size + 1,0,none⟩ (.int .i64 n)).setCell ⟨w.heap.size + 1,1,none⟩ (.slice (some ad') 0 cap')).cell? ⟨w.heap.size + 1,0,none⟩ = some (.int .i64 n) :=
    (World.cell?_setCell_other _ _ _ _ hne.symm).trans (World.cell?_setCell_same _ _ _ ((World.cell?_setCell_other _ _ _ _ (hnb 1 0)).trans c0))
  have HB5:=hide (((((za HB0).trans ((za HB).mono (za HB0).size)).setCell (p:=⟨w.heap.size + 1 + 1,1,none⟩) (by simp; omega) (.slice (some ad') 0 cap')).setCell (p:=⟨w.heap.size + 1,0,none⟩) (by simp) (.int .i64 n)).setCell (p:=⟨w.heap.size + 1,1,none⟩) (by simp) (.slice (some ad') 0 cap'))
  generalize (((w1.setCell ⟨w.heap.size + 1 + 1,1,none⟩ (.slice (some ad') 0 cap')).setCell ⟨w.heap.size + 1,0,none⟩ (.int .i64 n)).setCell ⟨w.heap.size + 1,1,none⟩ (.slice (some ad') 0 cap')) = W5 at *
  try simp only [Exit.inBlock,Exit.then]
  refine bodyPost_ret (by simp [results,Tryz.results9,go_sem,d0,d1]; try rfl) rfl ?_
  exact ⟨ad',cap',rfl,za HB5⟩
theorem zbZ (n:Int) (v:Value) (l:List Od) (w:World) (hr:RdR Od.vs 6 w v l) :
    Calls Tryz.prog 9 #[.agg #[.int .i64 n,v]] w fun e w'=>∃ ad cp,e = .returned (.agg #[.int .i64 n,.slice (some ad) l.length cp])∧OwnR Od.vs 6 w.heap.size w' (.slice (some ad) l.length cp) l∧Below w.heap.size w w':=by
  by_cases hl:l = []
  · subst hl
    obtain ⟨a,cap,rfl,_,_⟩:=hr
    refine (toBook_nil n a cap w).mono ?_
    rintro e w' ⟨ad,cp,rfl,hb⟩
    exact ⟨ad,cp,rfl,⟨some ad,cp,rfl,by simp,fun h=>absurd rfl h⟩,hb⟩
  · refine (toBook_any n v l w hr).mono ?_
    rintro e w' ⟨v',rfl,ho,hb⟩
    have HO:=ho
    obtain ⟨a,cap,rfl,_,h⟩:=ho
    obtain ⟨g,rfl,_⟩:=h hl
    exact ⟨_,_,rfl,HO,hb⟩
end Go.Proofs.YtdfihaabhichdaaGreat
namespace Go.Proofs.YtdfihaabhichdaaGreat
open Go.RowKit
set_option linter.unusedVariables false

theorem look_only {d i:Nat}:∀ {ks:List (Nat × Nat)} {j:Nat},ks.lookup j = some d→ks.all (fun p=>p.2 != d || p.1 == i) = true→j = i
 | [],_,h,_=>by cases h
 | (a,b) :: r,j,h,hall=>by
  rw [List.lookup_cons] at h
  simp only [List.all_cons,Bool.and_eq_true] at hall
  by_cases e:j = a
  ·subst e
   simp at h
   subst h
   have:=hall.1
   simp at this
   exact this
  ·have:(j == a) = false:=by rw [beq_eq_false_iff_ne]; exact e
   rw [this] at h
   exact look_only h hall.2
theorem hit_len {l:List Od} {k:Nat} {o:Od} {q:Int}:(zav l k o q).length ≤ l.length:=by
 rw [zav]
 split
 ·simp only [List.length_append,List.length_take,List.length_drop]; omega
 ·simp
theorem stL_len {next:Int} {l:List Od} {c:Cm} (hg:GoodL l):(stL next l c).length ≤ 100:=by
 have hl:=hg.len
 rw [stL]
 split
 ·next hr =>
  split
  ·next hk =>
   have hq:=zbV hr hk
   have h1:=(zbz (c:=c) (id:=next) 21 l c.q [] hg (by omega) hq.2).1.len
   rw [accL]
   split
   ·simp; omega
   ·omega
  ·split
   ·split
    ·have:=@hit_len l (plc l c.i).toNat; rename_i o _; have:=@hit_len l (plc l c.i).toNat o o.left; omega
    ·omega
   ·split
    ·split
     ·simp; omega
     ·omega
    ·exact Nat.le_trans (List.length_filter_le _ _) (by omega)
 ·omega
theorem stE_len {next:Int} {l:List Od} {c:Cm} (hg:GoodL l):(stE next l c).length ≤ 100:=by
 have hl:=hg.len
 rw [stE]
 split
 ·split
  ·have h1:=matL_few (c:=c) (id:=next) 21 l c.q []
   rw [accE]
   simp only [List.length_append,List.length_cons,List.length_nil] at h1 ⊢
   split <;> simp <;> omega
  ·split
   ·split <;> simp
   ·split
    ·simp
    ·have h1:(l.filter dyB).length ≤ 20:=Nat.le_trans (List.length_filter_le _ _) hl
     simp only [List.length_cons,List.length_map]; omega
 ·simp
theorem sp_len {next:Int} {l:List Od} {c:Cm}:(spL next l c).length ≤ 100∧(spE next l c).length ≤ 100:=by
 rw [spL,spE]
 split
 ·next hok=>exact ⟨stL_len (zbh hok).1,stE_len (zbh hok).1⟩
 ·exact ⟨by simp,by simp⟩
structure BoxS (V:World) (b:Nat) (vs:List Value):Prop where
 r:V.rangeAt b 0 vs
 lt:b < V.heap.size
 k:∃ cur,V.heap[b]? = some (.cells cur 32 (0,0))
theorem zt {V V':World} {b:Nat} {vs:List Value} (h:BoxS V b vs) (hb:Below V.heap.size V V'):BoxS V' b vs :=
 ⟨zb h.r hb h.lt,Nat.lt_of_lt_of_le h.lt hb.size,by obtain ⟨cur,hc⟩:=h.k; exact ⟨cur,(hb.block b h.lt).trans hc⟩⟩
theorem zbs {V V':World} {b:Nat} {vs:List Value} {G:Option Nat} (h:BoxS V b vs) (hg:V.grownBy V' G) (hn:some b ≠ G):BoxS V' b vs :=
 ⟨fun j u hj=>(World.cell?_of_block (a:=⟨b,0 + j,none⟩) (hg.block b h.lt hn)).trans (h.r j u hj),Nat.lt_of_lt_of_le h.lt hg.size,by obtain ⟨cur,hc⟩:=h.k; exact ⟨cur,(hg.block b h.lt hn).trans hc⟩⟩
theorem boxS_made (V:World) (vs:List Value):BoxS (V.alloc (Obj.cells vs.toArray 32)) V.heap.size vs :=
 ⟨zh V vs _,by rw [ze]; omega,⟨_,heap_alloc_new V _⟩⟩
def DL (vs:List Value) (ks:List (Nat × Nat)) (S:Nat) (n N rc:Int) (l L:List Od) (E:List Ev) (p:Prop) (W:World) (j:Nat) (v:Value):Prop :=
 match ks.lookup j with
 | none=>∀ u,vs[j]? = some u→v = u
 | some 1=>¬ p→∃ ad cp,v = .agg #[.int .i64 n,.slice (some ad) l.length cp]∧RdR Od.vs 6 W (.slice (some ad) l.length cp) l
 | some 2=>∃ aq cq ag cg,v = .tuple #[.agg #[.int .i64 N,.slice aq L.length cq],.slice ag E.length cg,.int .i64 rc]∧ORow W S (.slice aq L.length cq) L∧ERow W S (.slice ag E.length cg) E
 | some 3=>∃ aq cq,v = .agg #[.int .i64 N,.slice aq L.length cq]∧ORow W S (.slice aq L.length cq) L
 | some 4=>∃ ag cg,v = .slice ag E.length cg∧ERow W S (.slice ag E.length cg) E
 | some 5=>∃ b,v = .pointer (some ⟨b,0,none⟩)∧S ≤ b∧b < W.heap.size∧W.there b 0 2∧(∃ cur,W.heap[b]? = some (.cells cur 32 (0,0)))∧(p→∃ aq cq,W.rangeAt b 0 [.int .i64 N,.slice aq L.length cq]∧ORow W S (.slice aq L.length cq) L)
 | some _=>True
section
variable {vs:List Value} {ks:List (Nat × Nat)} {S:Nat} {n N rc:Int} {l L:List Od} {E:List Ev} {p:Prop} {W W':World} {j d:Nat} {v u:Value}
theorem zaO (h:DL vs ks S n N rc l L E p W j v) (hk:ks.lookup j = none) (hu:vs[j]? = some u):v = u:=by
 rw [DL,hk] at h; exact h u hu
theorem zaN (hk:ks.lookup j = none) (hu:vs[j]? = some v):DL vs ks S n N rc l L E p W j v:=by
 rw [DL,hk]; intro u h; rw [hu] at h; cases h; rfl
theorem dl_1 (h:DL vs ks S n N rc l L E p W j v) (hk:ks.lookup j = some 1) (hp:¬ p):∃ ad cp,v = .agg #[.int .i64 n,.slice (some ad) l.length cp]∧RdR Od.vs 6 W (.slice (some ad) l.length cp) l:=by
 rw [DL,hk] at h; exact h hp
theorem dl_mk1 (hk:ks.lookup j = some 1) (h:∃ ad cp,v = .agg #[.int .i64 n,.slice (some ad) l.length cp]∧RdR Od.vs 6 W (.slice (some ad) l.length cp) l):DL vs ks S n N rc l L E p W j v:=by
 rw [DL,hk]; exact fun _=>h
theorem dl_2 (h:DL vs ks S n N rc l L E p W j v) (hk:ks.lookup j = some 2):∃ aq cq ag cg,v = .tuple #[.agg #[.int .i64 N,.slice aq L.length cq],.slice ag E.length cg,.int .i64 rc]∧ORow W S (.slice aq L.length cq) L∧ERow W S (.slice ag E.length cg) E:=by
 rw [DL,hk] at h; exact h
theorem dl_mk2 (hk:ks.lookup j = some 2) (h:∃ aq cq ag cg,v = .tuple #[.agg #[.int .i64 N,.slice aq L.length cq],.slice ag E.length cg,.int .i64 rc]∧ORow W S (.slice aq L.length cq) L∧ERow W S (.slice ag E.length cg) E):DL vs ks S n N rc l L E p W j v:=by
 rw [DL,hk]; exact h
theorem dl_3 (h:DL vs ks S n N rc l L E p W j v) (hk:ks.lookup j = some 3):∃ aq cq,v = .agg #[.int .i64 N,.slice aq L.length cq]∧ORow W S (.slice aq L.length cq) L:=by
 rw [DL,hk] at h; exact h
theorem dl_mk3 (hk:ks.lookup j = some 3) (h:∃ aq cq,v = .agg #[.int .i64 N,.slice aq L.length cq]∧ORow W S (.slice aq L.length cq) L):DL vs ks S n N rc l L E p W j v:=by
 rw [DL,hk]; exact h
theorem dl_4 (h:DL vs ks S n N rc l L E p W j v) (hk:ks.lookup j = some 4):∃ ag cg,v = .slice ag E.length cg∧ERow W S (.slice ag E.length cg) E:=by
 rw [DL,hk] at h; exact h
theorem dl_mk4 (hk:ks.lookup j = some 4) (h:∃ ag cg,v = .slice ag E.length cg∧ERow W S (.slice ag E.length cg) E):DL vs ks S n N rc l L E p W j v:=by
 rw [DL,hk]; exact h
theorem dl_5 (h:DL vs ks S n N rc l L E p W j v) (hk:ks.lookup j = some 5):∃ b,v = .pointer (some ⟨b,0,none⟩)∧S ≤ b∧b < W.heap.size∧W.there b 0 2∧(∃ cur,W.heap[b]? = some (.cells cur 32 (0,0)))∧(p→∃ aq cq,W.rangeAt b 0 [.int .i64 N,.slice aq L.length cq]∧ORow W S (.slice aq L.length cq) L):=by
 rw [DL,hk] at h; exact h
theorem dl_mk5 (hk:ks.lookup j = some 5) (hp:¬ p) (hS:S ≤ W.heap.size):DL vs ks S n N rc l L E p (W.alloc (Obj.cells #[.int .i64 0,.slice none 0 0] 32)) j (.pointer (some ⟨W.heap.size,0,none⟩)):=by
 rw [DL,hk]; exact ⟨W.heap.size,rfl,hS,by rw [ze]; omega,zI W [.int .i64 0,.slice none 0 0] _,⟨_,heap_alloc_new W _⟩,fun h=>absurd h hp⟩
theorem dl_mk9 (hk:ks.lookup j = some 9):DL vs ks S n N rc l L E p W j v:=by rw [DL,hk]; trivial
theorem zaZ:∀ p W W' j v,Below W.heap.size W W'→DL vs ks S n N rc l L E p W j v→DL vs ks S n N rc l L E p W' j v:=by
 intro p W W' j v hb h
 unfold DL at h ⊢
 split
 ·next hk=>rw [hk] at h; exact h
 ·next hk=>rw [hk] at h; intro hp; obtain ⟨ad,cp,h1,h2⟩:=h hp; exact ⟨ad,cp,h1,zj h2 hb (Nat.le_refl _)⟩
 ·next hk=>rw [hk] at h; obtain ⟨aq,cq,ag,cg,h1,h2,h3⟩:=h; exact ⟨aq,cq,ag,cg,h1,zg h2 hb,zn h3 hb⟩
 ·next hk=>rw [hk] at h; obtain ⟨aq,cq,h1,h2⟩:=h; exact ⟨aq,cq,h1,zg h2 hb⟩
 ·next hk=>rw [hk] at h; obtain ⟨ag,cg,h1,h2⟩:=h; exact ⟨ag,cg,h1,zn h2 hb⟩
 ·next hk=>rw [hk] at h; obtain ⟨b,h1,h2,h3,h4,⟨cur,h5⟩,h6⟩:=h; exact ⟨b,h1,h2,Nat.lt_of_lt_of_le h3 hb.size,zf h4 hb h3,⟨cur,(hb.block b h3).trans h5⟩,fun hp=>by obtain ⟨aq,cq,h7,h8⟩:=h6 hp; exact ⟨aq,cq,zb h7 hb h3,zg h8 hb⟩⟩
 ·trivial
theorem dl_store {b:Nat} {aq:Option Addr} {cq:Nat} (hS:S ≤ b) (hth:W.there b 0 2) (hlt:b < W.heap.size) (hbx:∃ cur,W.heap[b]? = some (.cells cur 32 (0,0))) (ho:ORow W S (.slice aq L.length cq) L) (h5:ks.lookup j = some 5→v = .pointer (some ⟨b,0,none⟩)) (h:DL vs ks S n N rc l L E False W j v):DL vs ks S n N rc l L E True (W.setCells b 0 [.int .i64 N,.slice aq L.length cq]) j v:=by
 have hO:∀ {v L},ORow W S v L→ORow (W.setCells b 0 [.int .i64 N,.slice aq L.length cq]) S v L:=fun h=>zaT (zm h hbx (by decide)) _ _ _ h
 have hO':∀ {v:Value} {L':List Od},ORow W S v L'→ORow (W.setCells b 0 [.int .i64 N,.slice aq L.length cq]) S v L':=fun h=>zaT (zm h hbx (by decide)) _ _ _ h
 have hE:∀ {v:Value} {E':List Ev},ERow W S v E'→ERow (W.setCells b 0 [.int .i64 N,.slice aq L.length cq]) S v E':=fun h=>zaT (zm h hbx (by decide)) _ _ _ h
 unfold DL at h ⊢
 split
 ·next hk=>rw [hk] at h; exact h
 ·next hk=>intro hp; exact absurd trivial hp
 ·next hk=>rw [hk] at h; obtain ⟨aq,cq,ag,cg,h1,h2,h3⟩:=h; exact ⟨aq,cq,ag,cg,h1,hO' h2,hE h3⟩
 ·next hk=>rw [hk] at h; obtain ⟨aq,cq,h1,h2⟩:=h; exact ⟨aq,cq,h1,hO' h2⟩
 ·next hk=>rw [hk] at h; obtain ⟨ag,cg,h1,h2⟩:=h; exact ⟨ag,cg,h1,hE h2⟩
 ·next hk =>
  refine ⟨b,h5 hk,hS,by rw [zB]; exact hlt,World.there_setCells hth _ _ _,?_,fun _=>⟨aq,cq,World.rangeAt_setCells_same W b 0 _ (fun j hj=>hth j hj),hO' ho⟩⟩
  obtain ⟨cur,hc⟩:=hbx
  exact kind_setC W b _ 0 hc
 ·trivial
end
theorem rg_write2 {base W W':World} {k:Nat} {D:Prop→World→Nat→Value→Prop} {x:List Bool} {f:Nat→Value} (hb:Below base.heap.size base W') (h:∀ j,x[j]? = some true→D (x[k]? = some true) W j (f j)) (hk:x[k]? = some false) (hm:∀ j,j ≠ k→x[j]? = some true→D False W j (f j)→D True W' j (f j)) (hv:D True W' k (f k)) :
  Below base.heap.size base W'∧∀ j,(x.set k true)[j]? = some true→D ((x.set k true)[k]? = some true) W' j (f j):=by
 have e:((x.set k true)[k]? = some true) = True:=by
  rw [List.getElem?_set_self (List.getElem?_eq_some_iff.1 hk).1]; simp
 refine ⟨hb,fun j hj=>?_⟩
 rw [e]
 by_cases hji:j = k
 ·subst hji; exact hv
 ·rw [List.getElem?_set_ne (fun e=>hji e.symm)] at hj
  refine hm j hji hj ?_
  have:=h j hj
  rw [hk] at this
  simpa using this
end Go.Proofs.YtdfihaabhichdaaGreat
