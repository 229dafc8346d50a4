/-
  The source of drawn things, made: proved by walking the function.
-/
import Derived.Test.YtaoaomipplmjcaaDj46
import Derived.Test.YtaoaomipplmjcaaDj47
import Derived.Test.YtaoaomipplmjcaaDj48
import Derived.Test.YtaoaomipplmjcaaDj49
import Derived.LoopN
namespace Go.Proofs.Ytaoaomipplmjcaa
open Go.RowKit
set_option linter.unusedVariables false

theorem gr_alloc (w:World) (o:Obj) (row:Option Nat):w.grownBy (w.alloc o) row :=
  ⟨rfl,rfl,rfl,by simp,fun k hk _=>((Below.refl _ w).alloc (Nat.le_refl _) o).block k hk⟩
theorem rd_new {w:World} {v:Value} {l:List Int} (h:Rd w v l) (hne:l ≠ []):v.ownBlock ≠ some w.heap.size:=by
  obtain ⟨a,cap,rfl,_,hc⟩:=h
  obtain ⟨b,off,rfl,hcell⟩:=hc hne
  have:=World.block_lt_of_cell? w _ (hcell 0 (List.length_pos_iff.2 hne))
  simp only [Value.ownBlock,ne_eq,Option.some.injEq]
  intro e
  simp only at this
  omega
theorem source_any (v:Value) (l:List Int) (w:World) (h:Rd w v l) (hb:Bts l) :
    Calls Try.prog 6 #[v] w fun e w'=>e = .returned (.pointer (some ⟨w.heap.size,0,none⟩))∧Src w.heap.size w' v l 0∧Below w.heap.size w w':=by
  have HR:=hide h
  have HB:=hide hb
  have HV:=hide (fun hne=>rd_new h hne)
  obtain ⟨a,cap,rfl,hl,_⟩:=h
  clear hb
  go_enter Try.func6,Try.ntmps6
  go_wp2_with fail
  go_ret
  refine ⟨rfl,⟨rd_grown (za HR) (gr_alloc w _ _) (za HV),za HV,za HB,cell_of_row _ _ _ _ _ (0,0) (heap_alloc_new w _),⟨0,(l.length:Int) % 1000,by omega,by omega,by omega,by omega,cell_of_row _ _ _ _ _ (0,0) (heap_alloc_new w _),cell_of_row _ _ _ _ _ (0,0) (heap_alloc_new w _)⟩,?_,?_⟩,(Below.refl _ w).alloc (Nat.le_refl _) _⟩
  all_goals
    unfold World.frozen?
    rw [heap_alloc_new]
    simp
theorem own_below_grown {w w1 w':World} {B:Nat} (h1:Below w.heap.size w w1) (hB:w.heap.size ≤ B) (h2:w1.grownBy w' (some B)):Below w.heap.size w w' :=
  h1.trans (gr_below h2 hB h1.size)
end Go.Proofs.Ytaoaomipplmjcaa
namespace Go.Proofs.Ytaoaomipplmjcaa
open Go.RowKit
set_option linter.unusedVariables false

set_option maxHeartbeats 800000 in
theorem bookOf_any (v:Value) (l:List Int) (w:World) (hr:Rd w v l) (hb:Bts l) (hl:l.length ≤ 1048576) :
    Calls Try.prog 4 #[v] w fun e w'=>∃ n v' q,e = .returned (.agg #[.int .i64 n,v'])∧OwnR Od.vs 6 w.heap.size w' v' q∧okS n q = true∧(∀ c ∈ q,c.tag.size ≤ maxLen)∧Below w.heap.size w w'∧(v' = .slice none 0 0 ∨ ∃ ad k c,v' = .slice (some ad) k c):=by
  have HR:=hide hr
  have HB:=hide hb
  obtain ⟨a,cap,rfl,_,_⟩:=hr
  clear hb
  have H0:Hid (Below w.heap.size w (w.alloc (Obj.cells #[.int .i64 0,.slice none 0 0] 25))):=(Below.refl _ _).alloc (Nat.le_refl _) _
  have T0:=hide (zG w [.int .i64 0,.slice none 0 0] 25)
  have S0:Hid ((w.alloc (Obj.cells #[.int .i64 0,.slice none 0 0] 25)).heap.size = w.heap.size + 1):=zc _ _
  go_enter Try.func4,Try.ntmps4
  go_wp2_with fail
  have T0:Hid (World.there (w.alloc (Obj.cells #[.int .i64 0,.slice none 0 0] 25)) w.heap.size 0 2):=za T0
  generalize (w.alloc (Obj.cells #[.int .i64 0,.slice none 0 0] 25)) = W1 at H0 T0 S0 ⊢
  refine (source_any _ l W1 (rd_below (za HR) (za H0) (Nat.le_refl _)) (za HB)).mono ?_
  rintro e w1 ⟨rfl,hS,hb1⟩
  have HS:=hide hS
  have HB1:=hide hb1
  clear hS hb1
  go_wp2_with fail
  refine (book_any _ _ l _ w1 (za HS) (by omega)).mono ?_
  rintro e w2 ⟨n,v',q,rfl,ho,hok,htg,hg2,hsl⟩
  have HSL:=hide hsl
  have HO:=hide ho
  have HOK:=hide hok
  have HTG:=hide htg
  have HB2:=hide (own_below_grown (za HB1) (Nat.le_refl _) hg2)
  have hs0:=za S0
  have ht2:=zr (za T0) (za HB2) (by omega)
  obtain ⟨aq,cq,rfl,hql,hqr⟩:=ho
  have hs2:w.heap.size + 1 ≤ w2.heap.size:=by have:=(za HB2).size; omega
  have HRX:=hide (World.rangeAt_setCells_same w2 w.heap.size 0 [.int .i64 n,.slice aq q.length cq] (fun j hj=>ht2 j hj))
  obtain ⟨⟨x0,y0,q0⟩,x1,y1,q1⟩:(∃ v,w2.cell? ⟨w.heap.size,0,none⟩ = some v∧w2.frozen? ⟨w.heap.size,0,none⟩ = false)∧(∃ v,w2.cell? ⟨w.heap.size,1,none⟩ = some v∧w2.frozen? ⟨w.heap.size,1,none⟩ = false):=⟨by simpa using zac ht2 0 (by omega),by simpa using zac ht2 1 (by omega)⟩
  have HBE:Hid (Below w.heap.size w ((w2.setCell ⟨w.heap.size,0,none⟩ (.int .i64 n)).setCell ⟨w.heap.size,1,none⟩ (.slice aq q.length cq))) :=
    (((za H0).trans ((za HB2).mono (by omega))).setCell (p:=⟨w.heap.size,0,none⟩) (Nat.le_refl _) _).setCell (p:=⟨w.heap.size,1,none⟩) (Nat.le_refl _) _
  have hw1:w.heap.size < w1.heap.size:=by have:=(za HB1).size; omega
  have HOE:Hid (OwnR Od.vs 6 w.heap.size ((w2.setCell ⟨w.heap.size,0,none⟩ (.int .i64 n)).setCell ⟨w.heap.size,1,none⟩ (.slice aq q.length cq)) (.slice aq q.length cq) q) :=
    ownR_base (ownR_set (b:=w.heap.size) (ownR_set (b:=w.heap.size) (za HO) hw1 0 (.int .i64 n)) hw1 1 (.slice aq q.length cq)) (by omega)
  clear hok htg hg2 hsl ht2 hqr hs0
  go_wp2_with fail
  have HRX:Hid (World.rangeAt ((w2.setCell ⟨w.heap.size,0,none⟩ (.int .i64 n)).setCell ⟨w.heap.size,1,none⟩ (.slice aq q.length cq)) w.heap.size 0 [.int .i64 n,.slice aq q.length cq]):=za HRX
  generalize ((w2.setCell ⟨w.heap.size,0,none⟩ (.int .i64 n)).setCell ⟨w.heap.size,1,none⟩ (.slice aq q.length cq)) = WE at HRX HOE HBE ⊢
  have d0:WE.cell? ⟨w.heap.size,0,none⟩ = some (.int .i64 n):=za HRX 0 _ rfl
  have d1:WE.cell? ⟨w.heap.size,1,none⟩ = some (.slice aq q.length cq):=za HRX 1 _ rfl
  try simp only [Exit.inBlock,Exit.then]
  refine bodyPost_ret (by simp [results,Try.results4,go_sem,d0,d1]; try rfl) rfl ?_
  exact ⟨n,_,q,rfl,za HOE,za HOK,za HTG,za HBE,za HSL⟩
end Go.Proofs.Ytaoaomipplmjcaa
namespace Go.Proofs.Ytaoaomipplmjcaa
open Go.RowKit
set_option linter.unusedVariables false

set_option maxRecDepth 100000 in
set_option maxHeartbeats 4000000 in
theorem dayLaw (v:Value) (code:List Int) (w:World) (hr:Rd w v code) (hb:Bts code) (hl:code.length ≤ 1048576) :
    Calls Try.prog 3 #[v] w fun e w'=>e = .returned (.bool true)∧Below w.heap.size w w':=by
  have HR:=hide hr
  have HBT:=hide hb
  obtain ⟨a,cap,rfl,hlen,hc⟩:=hr
  have hl':¬ ((1048576:Int) < code.length):=by omega
  clear hc hb
  go_enter Try.func3,Try.ntmps3
  go_wp2_with fail
  refine (bookOf_any _ code w (za HR) (za HBT) hl).mono ?_
  rintro e w1 ⟨n,vq,l,rfl,ho1,hok,htg,hb1,hsl⟩
  have HO1:=hide ho1
  have HTG:=hide htg
  have HB1:=hide hb1
  have HSL:Hid (SlOk vq):=hsl
  obtain ⟨aq,cq,rfl,-,hq1⟩:=ho1
  have HQ1:Hid (∀ j c,l[j]? = some c→∃ g,aq = some ⟨g,0,none⟩∧g < w1.heap.size∧w1.rangeAt g (j * 6) c.vs):=fun j c hj=>by
    obtain ⟨g,h1,_,h3,h4,_⟩:=hq1 (by intro h; rw [h] at hj; simp at hj)
    have:=h4 j c hj
    rw [Nat.zero_add] at this
    exact ⟨g,h1,h3,this⟩
  have H2:Hid (Below w1.heap.size w1 (w1.alloc (Obj.cells #[.int .i64 n,.slice aq l.length cq] 25))):=(Below.refl _ _).alloc (Nat.le_refl _) _
  have X2:Hid (World.rangeAt (w1.alloc (Obj.cells #[.int .i64 n,.slice aq l.length cq] 25)) w1.heap.size 0 [.int .i64 n,.slice aq l.length cq]∧w1.heap.size < (w1.alloc (Obj.cells #[.int .i64 n,.slice aq l.length cq] 25)).heap.size):=⟨zd w1 [.int .i64 n,.slice aq l.length cq] _,by rw [zc]; omega⟩
  have hn:=(okS_left hok).1
  obtain ⟨s1,s2,s3,s4⟩:=day_sp hok
  have HSP:=hide (And.intro s1 (And.intro s2 (And.intro s3 s4)))
  clear hb1 htg hok hsl hq1 s1 s2 s3 s4
  have HC2:Hid (∀ W,Below w1.heap.size w1 W→w1.heap.size < W.heap.size→RdR Od.vs 6 W (.slice aq l.length cq) l):=fun W hW _=>zm (ownR_rd (za HO1)) hW (Nat.le_refl _)
  have z0:(w1.alloc (Obj.cells #[.int .i64 n,.slice aq l.length cq] 25)).cell? ⟨w1.heap.size,0,none⟩ = some (.int .i64 n):=(za X2).1 0 _ rfl
  have z1:(w1.alloc (Obj.cells #[.int .i64 n,.slice aq l.length cq] 25)).cell? ⟨w1.heap.size,1,none⟩ = some (.slice aq l.length cq):=(za X2).1 1 _ rfl
  go_wp2_with fail
  generalize (w1.alloc (Obj.cells #[.int .i64 n,.slice aq l.length cq] 25)) = W2 at H2 X2 z0 z1 ⊢
  refine (implStepBook_any n _ l dayC W2 (za HC2 _ (za H2) (za X2).2) (za HSL) (za HTG) (Nat.zero_le _)).mono ?_
  rintro e w3 ⟨vn,vg,rfl,hon,hev,hb3⟩
  obtain ⟨s1,s2,s3,s4⟩:=za HSP
  rw [s2] at hon
  rw [s3] at hev
  rw [s1,s4]
  obtain ⟨an,cn,rfl,-,hcn⟩:=zar Od.len (by have:=List.length_filter_le ndy l; omega) hon
  have hE1:(({ kind:=8,cmd:=zCm,id:=0,other:=0,qty:=((l.filter dyB).length:Nat),price:=0,reason:=0 }:Ev) :: (l.filter dyB).map expE).length = (l.filter dyB).length + 1:=by simp
  have hndl:(l.filter dyB).length ≤ 20:=Nat.le_trans (List.length_filter_le _ _) hn
  obtain ⟨ae,ce,rfl,-,hce⟩:=zar Ev.len (by rw [hE1]; omega) hev
  obtain ⟨ge,rfl,-,hge,hce,-⟩:=hce (by simp)
  rw [hE1]
  have HEV:Hid (∀ j c,(({ kind:=8,cmd:=zCm,id:=0,other:=0,qty:=((l.filter dyB).length:Nat),price:=0,reason:=0 }:Ev) :: (l.filter dyB).map expE)[j]? = some c→w3.rangeAt ge (j * 14) c.vs):=fun j c hj=>by
    have:=hce j c hj
    rwa [Nat.zero_add] at this
  have HNX:Hid (∀ j c,(l.filter ndy)[j]? = some c→∃ g,an = some ⟨g,0,none⟩∧g < w3.heap.size∧w3.rangeAt g (j * 6) c.vs):=fun j c hj=>by
    obtain ⟨g,h1,_,h3,h4,_⟩:=hcn (by intro h; rw [h] at hj; simp at hj)
    have:=h4 j c hj
    rw [Nat.zero_add] at this
    exact ⟨g,h1,h3,this⟩
  have hnn:(l.filter ndy).length ≤ 20:=Nat.le_trans (List.length_filter_le _ _) hn
  have HB3:=hide hb3
  have hw13:w1.heap.size < w3.heap.size:=Nat.lt_of_lt_of_le (za X2).2 hb3.size
  have HZ3:Hid (w3.rangeAt w1.heap.size 0 [.int .i64 n,.slice aq l.length cq]):=zb (za X2).1 hb3 (za X2).2
  have H13:Hid (Below w1.heap.size w1 w3):=(za H2).trans (hb3.mono (za H2).size)
  clear hcn hce hon hev hb3 s1 s2 s3 s4 z0 z1 hE1
  generalize hnd:(l.filter dyB).length = nd at *
  have HND:=hide hnd
  generalize hnm:(l.filter ndy).length = nm at *
  have HNM:=hide hnm
  clear hnd hnm
  have HB4:Hid (Below w3.heap.size w3 (w3.alloc (Obj.cells #[.int .i64 n,.slice an nm cn] 25))):=(Below.refl _ _).alloc (Nat.le_refl _) _
  have HX4:Hid (World.rangeAt (w3.alloc (Obj.cells #[.int .i64 n,.slice an nm cn] 25)) w3.heap.size 0 [.int .i64 n,.slice an nm cn]∧w3.heap.size < (w3.alloc (Obj.cells #[.int .i64 n,.slice an nm cn] 25)).heap.size):=⟨zd w3 [.int .i64 n,.slice an nm cn] _,by rw [zc]; omega⟩
  have f0:(w3.alloc (Obj.cells #[.int .i64 n,.slice an nm cn] 25)).cell? ⟨w3.heap.size,0,none⟩ = some (.int .i64 n):=(za HX4).1 0 _ rfl
  have z0:(w3.alloc (Obj.cells #[.int .i64 n,.slice an nm cn] 25)).cell? ⟨w1.heap.size,0,none⟩ = some (.int .i64 n):=zb (za HZ3) (za HB4) hw13 0 _ rfl
  have hE0:=zb (za HEV 0 _ rfl) (za HB4) hge
  have e0:(w3.alloc (Obj.cells #[.int .i64 n,.slice an nm cn] 25)).cell? ⟨ge,0,none⟩ = some (.int .i64 8):=by simpa using hE0 0 _ rfl
  have e11:(w3.alloc (Obj.cells #[.int .i64 n,.slice an nm cn] 25)).cell? ⟨ge,11,none⟩ = some (.int .i64 nd):=by simpa using hE0 11 _ rfl
  have hw1:IntKind.i64.wrap ((nd:Int) + 1 - 1) = nd:=by rw [IntKind.wrap_i64]; omega
  have hd1:¬ ((nd:Int) + 1 < 1):=by omega
  have hd0:(0:Int) < (nd:Int) + 1:=by omega
  clear hE0
  go_wp2_with fail
  clear f0 z0 e0 e11 hw1 hd1
  generalize (w3.alloc (Obj.cells #[.int .i64 n,.slice an nm cn] 25)) = W4 at HB4 HX4 ⊢
  have HEV4:Hid (∀ j c,(({ kind:=8,cmd:=zCm,id:=0,other:=0,qty:=(nd:Nat),price:=0,reason:=0 }:Ev) :: (l.filter dyB).map expE)[j]? = some c→W4.rangeAt ge (j * 14) c.vs):=fun j c hj=>zb (za HEV j c hj) (za HB4) hge
  have hge4:ge < W4.heap.size:=Nat.lt_of_lt_of_le hge (za HB4).size
  have HNX4:Hid (∀ j c,(l.filter ndy)[j]? = some c→∃ g,an = some ⟨g,0,none⟩∧g < W4.heap.size∧W4.rangeAt g (j * 6) c.vs):=fun j c hj=>by
    obtain ⟨g,h1,h2,h3⟩:=za HNX j c hj
    exact ⟨g,h1,Nat.lt_of_lt_of_le h2 (za HB4).size,zb h3 (za HB4) h2⟩
  have HQ4:Hid (∀ j c,l[j]? = some c→∃ g,aq = some ⟨g,0,none⟩∧g < W4.heap.size∧W4.rangeAt g (j * 6) c.vs):=fun j c hj=>by
    obtain ⟨g,h1,h2,h3⟩:=za HQ1 j c hj
    have h5:=(za H13).size
    exact ⟨g,h1,Nat.lt_of_lt_of_le (Nat.lt_of_lt_of_le h2 h5) (za HB4).size,zb (zb h3 (za H13) h2) (za HB4) (by omega)⟩
  have HZ4:Hid (W4.rangeAt w1.heap.size 0 [.int .i64 n,.slice aq l.length cq]):=zb (za HZ3) (za HB4) hw13
  have hw14:w1.heap.size < W4.heap.size:=Nat.lt_of_lt_of_le hw13 (za HB4).size
  have HBW:Hid (Below w.heap.size w W4):=(za HB1).trans (((za H13).trans ((za HB4).mono (za H13).size)).mono (za HB1).size)
  go_loopw [7,8,9] (fun kv nv iv wr=>∃ m kd km:Nat,m ≤ l.length∧iv = .int .i64 m∧kv = .int .i64 ((kd:Int) + 1)∧nv = .int .i64 km∧Hid (kd = ((l.take m).filter dyB).length∧km = ((l.take m).filter ndy).length)∧Below W4.heap.size W4 wr) (fun _ _ iv _=>l.length - (intOf iv).toNat)
  case atStart=>exact ⟨0,0,0,Nat.zero_le _,rfl,rfl,rfl,⟨rfl,rfl⟩,Below.refl _ _⟩
  case round =>
    obtain ⟨m,kd,km,hm,rfl,rfl,rfl,hkk,hbel⟩:=hrel
    have HBL:=hide hbel
    have d1:wr.cell? ⟨w1.heap.size,1,none⟩ = some (.slice aq l.length cq):=zb (za HZ4) hbel hw14 1 _ rfl
    have c1:wr.cell? ⟨w3.heap.size,1,none⟩ = some (.slice an nm cn):=zb (za HX4).1 hbel (za HX4).2 1 _ rfl
    have hsz:=hbel.size
    clear hbel
    by_cases hlt:m < l.length
    · obtain ⟨o,hmo⟩:∃ o,l[m]? = some o:=⟨_,List.getElem?_eq_getElem hlt⟩
      have HMO:=hide hmo
      obtain ⟨g,rfl,hg,hog⟩:=za HQ4 m o hmo
      obtain ⟨p0,p1,p2,p3,p4,p5⟩:=zA (zb hog (za HBL) hg)
      have hlt':(m:Int) < l.length:=by omega
      have HBA:Hid (Below wr.heap.size wr (wr.alloc (Obj.cells #[.int .i64 o.id,.int .i64 o.side,.int .i64 o.ticks,.int .i64 o.left,.int .i64 o.life,.string o.tag] 36))):=(Below.refl _ _).alloc (Nat.le_refl _) _
      have HXA:Hid (World.rangeAt (wr.alloc (Obj.cells #[.int .i64 o.id,.int .i64 o.side,.int .i64 o.ticks,.int .i64 o.left,.int .i64 o.life,.string o.tag] 36)) wr.heap.size 0 [.int .i64 o.id,.int .i64 o.side,.int .i64 o.ticks,.int .i64 o.left,.int .i64 o.life,.string o.tag]):=zd wr [.int .i64 o.id,.int .i64 o.side,.int .i64 o.ticks,.int .i64 o.left,.int .i64 o.life,.string o.tag] _
      have b4:(wr.alloc (Obj.cells #[.int .i64 o.id,.int .i64 o.side,.int .i64 o.ticks,.int .i64 o.left,.int .i64 o.life,.string o.tag] 36)).cell? ⟨wr.heap.size,4,none⟩ = some (.int .i64 o.life):=za HXA 4 _ rfl
      clear hmo hog
      by_cases hlf:o.life = 1
      · have hlb:(o.life == 1) = true:=by simp [hlf]
        have hev:=day_ev (({ kind:=8,cmd:=zCm,id:=0,other:=0,qty:=(nd:Nat),price:=0,reason:=0 }:Ev)) (za HMO) hlf
        rw [← (za hkk).1] at hev
        have hkl:=(List.getElem?_eq_some_iff.1 hev).1
        rw [List.length_cons,List.length_map,za HND] at hkl
        have hE:=zb (zb (za HEV4 _ _ hev) (za HBL) hge4) (za HBA) (Nat.lt_of_lt_of_le hge4 hsz)
        have hkl1:decide ((nd:Int) + 1 ≤ (kd:Int) + 1) = false:=decide_eq_false (by omega)
        have hkl2:(kd:Int) + 1 < (nd:Int) + 1:=by omega
        have hkn:¬ nd ≤ kd:=by omega
        have hkn2:kd < nd:=by omega
        have hkn3:decide (nd ≤ kd) = false:=decide_eq_false hkn
        have hkl3:(0:Int) ≤ (kd:Int) + 1:=by omega
        have hw2:IntKind.i64.wrap ((kd:Int) + 1 + 1) = (kd:Int) + 1 + 1:=by rw [IntKind.wrap_i64]; omega
        have HKK:Hid (kd + 1 = ((l.take (m + 1)).filter dyB).length∧km = ((l.take (m + 1)).filter ndy).length):=by
          have h1:=filt_yes (p:=dyB) (za HMO) (by simp [dyB,hlf])
          have h2:=filt_no (p:=ndy) (za HMO) (by simp [ndy,hlf])
          have h3:=za hkk
          exact ⟨by rw [h1,h3.1],by rw [h2,h3.2]⟩
        obtain ⟨q0,-,-,-,-,-,-,-,-,q9,-,q11,-,-⟩:=ev_cells hE
        simp only [expE] at q0 q9 q11
        have HLF:=hide hlf
        clear hev hE hlf hkk
        go_wp2_with fail
        have b0:(wr.alloc (Obj.cells #[.int .i64 o.id,.int .i64 o.side,.int .i64 o.ticks,.int .i64 o.left,.int .i64 o.life,.string o.tag] 36)).cell? ⟨wr.heap.size,0,none⟩ = some (.int .i64 o.id):=za HXA 0 _ rfl
        have b3:(wr.alloc (Obj.cells #[.int .i64 o.id,.int .i64 o.side,.int .i64 o.ticks,.int .i64 o.left,.int .i64 o.life,.string o.tag] 36)).cell? ⟨wr.heap.size,3,none⟩ = some (.int .i64 o.left):=za HXA 3 _ rfl
        clear p0 p1 p2 p3 p4 p5 d1 c1
        generalize (wr.alloc (Obj.cells #[.int .i64 o.id,.int .i64 o.side,.int .i64 o.ticks,.int .i64 o.left,.int .i64 o.life,.string o.tag] 36)) = WA at HBA HXA b0 b3 b4 q0 q9 q11 ⊢
        go_quiet (fail)
        go_wp2_with fail
        go_roundw
        case rel=>exact ⟨m + 1,kd + 1,km,by omega,by go_num,by go_num,rfl,za HKK,zbl ((za HBL).trans ((za HBA).mono hsz)) nq⟩
        case measure=>simp [intOf]; omega
      · have hlb:(o.life == 1) = false:=by simp [hlf]
        have hnx:=filt_get (p:=ndy) (za HMO) (by simp [ndy,hlf])
        rw [← (za hkk).2] at hnx
        have hkl:=(List.getElem?_eq_some_iff.1 hnx).1
        rw [za HNM] at hkl
        obtain ⟨gn,rfl,hgn,hcn⟩:=za HNX4 _ _ hnx
        have hE:=zb (zb hcn (za HBL) hgn) (za HBA) (Nat.lt_of_lt_of_le hgn hsz)
        have hkl1:decide ((nm:Int) ≤ (km:Int)) = false:=decide_eq_false (by omega)
        have hkl2:(km:Int) < (nm:Int):=by omega
        have hw2:IntKind.i64.wrap ((km:Int) + 1) = (km:Int) + 1:=by rw [IntKind.wrap_i64]; omega
        have HKK:Hid (kd = ((l.take (m + 1)).filter dyB).length∧km + 1 = ((l.take (m + 1)).filter ndy).length):=by
          have h1:=filt_yes (p:=ndy) (za HMO) (by simp [ndy,hlf])
          have h2:=filt_no (p:=dyB) (za HMO) (by simp [dyB,hlf])
          have h3:=za hkk
          exact ⟨by rw [h2,h3.1],by rw [h1,h3.2]⟩
        obtain ⟨q0,q1,q2,q3,q4,q5⟩:=zA hE
        have c1:(wr.alloc (Obj.cells #[.int .i64 o.id,.int .i64 o.side,.int .i64 o.ticks,.int .i64 o.left,.int .i64 o.life,.string o.tag] 36)).cell? ⟨w3.heap.size,1,none⟩ = some (.slice (some ⟨gn,0,none⟩) nm cn):=zb (zb (za HX4).1 (za HBL) (za HX4).2) (za HBA) (Nat.lt_of_lt_of_le (za HX4).2 hsz) 1 _ rfl
        clear hnx hE hlf hkk
        go_wp2_with fail
        have b0:(wr.alloc (Obj.cells #[.int .i64 o.id,.int .i64 o.side,.int .i64 o.ticks,.int .i64 o.left,.int .i64 o.life,.string o.tag] 36)).cell? ⟨wr.heap.size,0,none⟩ = some (.int .i64 o.id):=za HXA 0 _ rfl
        have b1:(wr.alloc (Obj.cells #[.int .i64 o.id,.int .i64 o.side,.int .i64 o.ticks,.int .i64 o.left,.int .i64 o.life,.string o.tag] 36)).cell? ⟨wr.heap.size,1,none⟩ = some (.int .i64 o.side):=za HXA 1 _ rfl
        have b2:(wr.alloc (Obj.cells #[.int .i64 o.id,.int .i64 o.side,.int .i64 o.ticks,.int .i64 o.left,.int .i64 o.life,.string o.tag] 36)).cell? ⟨wr.heap.size,2,none⟩ = some (.int .i64 o.ticks):=za HXA 2 _ rfl
        have b3:(wr.alloc (Obj.cells #[.int .i64 o.id,.int .i64 o.side,.int .i64 o.ticks,.int .i64 o.left,.int .i64 o.life,.string o.tag] 36)).cell? ⟨wr.heap.size,3,none⟩ = some (.int .i64 o.left):=za HXA 3 _ rfl
        have b5:(wr.alloc (Obj.cells #[.int .i64 o.id,.int .i64 o.side,.int .i64 o.ticks,.int .i64 o.left,.int .i64 o.life,.string o.tag] 36)).cell? ⟨wr.heap.size,5,none⟩ = some (.string o.tag):=za HXA 5 _ rfl
        clear p0 p1 p2 p3 p4 p5 d1
        generalize (wr.alloc (Obj.cells #[.int .i64 o.id,.int .i64 o.side,.int .i64 o.ticks,.int .i64 o.left,.int .i64 o.life,.string o.tag] 36)) = WA at HBA HXA b0 b1 b2 b3 b4 b5 q0 q1 q2 q3 q4 q5 c1 ⊢
        go_quiet (fail)
        go_wp2_with fail
        go_roundw
        case rel=>exact ⟨m + 1,kd,km + 1,by omega,by go_num,rfl,by go_num,za HKK,zbl ((za HBL).trans ((za HBA).mono hsz)) nq⟩
        case measure=>simp [intOf]; omega
    · obtain rfl:m = l.length:=by omega
      obtain ⟨h1,h2⟩:=za hkk
      rw [List.take_of_length_le (Nat.le_refl _)] at h1 h2
      obtain rfl:kd = nd:=by rw [h1,za HND]
      obtain rfl:km = nm:=by rw [h2,za HNM]
      clear h1 h2 hkk
      go_wp2_with fail
      go_ret
      exact ⟨rfl,(za HBW).trans ((za HBL).mono (za HBW).size)⟩
end Go.Proofs.Ytaoaomipplmjcaa
namespace Go.Proofs.Ytaoaomipplmjcaa
open Go.RowKit

set_option maxRecDepth 100000 in
set_option maxHeartbeats 800000 in
theorem lawDay (a0:Option Addr) (len0 cap0:Nat) (z0:List Int) (w:World)
    (w0:(a0 = none∧len0 = 0∧cap0 = 0∧z0 = []) ∨ ∃ x,a0 = some x∧len0 ≤ cap0∧cap0 ≤ maxLen∧z0.length = cap0∧(∀ i,i < z0.length→w.cell? (x.add i) = some (.int .u8 (z0.getD i 0)))∧∀ n ∈ z0,(Lit.int .u8 n).wf = true) :
    Calls Try.prog 3 #[.slice a0 len0 cap0] w fun e w'=>e = .returned (.bool true)∧Below w.heap.size w w':=by
  by_cases h0:1048576 < len0
  · have h0':(1048576:Int) < len0:=by omega
    clear w0
    go_enter Try.func3,Try.ntmps3
    go_wp2_with fail
    go_ret
    exact ⟨rfl,Below.refl _ _⟩
  obtain ⟨e0,r0,b0⟩:=rd_of_row w0 (by omega)
  exact dayLaw _ _ w r0 b0 (by omega)
end Go.Proofs.Ytaoaomipplmjcaa
