/-
  Rows of events in the laws: their copying, and their size; proved by walking the laws' own helpers.
-/
import Derived.Test.YtopjoogdpjaocaaGreatTj43
import Derived.Lib.AppendStr
set_option linter.unusedVariables false
set_option maxHeartbeats 6400000
set_option maxRecDepth 100000
namespace Go.Proofs.YtopjoogdpjaocaaGreat
open Go.RowKit
theorem Tryz.infoEvent:(Tryz.prog.info? 43).map (fun i=>(i.zero,i.size,i.bytes)) = some (some (.agg #[.int .i64 0,.int .i64 0,.int .i64 0,.int .i64 0,.int .i64 0,.int .i64 0,.int .i64 0,.float .f64 0,.string ⟨#[]⟩,.int .i64 0,.int .i64 0,.int .i64 0,.int .i64 0,.int .i64 0]),14,120):=by kernel_rfl
theorem take_snocE {α:Type} (l:List α) (k:Nat) (c:α) (h:l[k]? = some c):l.take (k + 1) = l.take k ++ [c]:=by
 obtain ⟨hk,rfl⟩:=List.getElem?_eq_some_iff.1 h
 rw [List.take_succ_eq_append_getElem hk]
theorem zaL9 {W:World} {b o:Nat} {e:Ev} (h:W.rangeAt b o e.vs):W.cell? ⟨b,o,none⟩ = some (.int .i64 e.kind)∧W.cell? ⟨b,o + 1,none⟩ = some (.int .i64 e.cmd.k)∧W.cell? ⟨b,o + 2,none⟩ = some (.int .i64 e.cmd.s)∧W.cell? ⟨b,o + 3,none⟩ = some (.int .i64 e.cmd.t)∧W.cell? ⟨b,o + 4,none⟩ = some (.int .i64 e.cmd.l)∧W.cell? ⟨b,o + 5,none⟩ = some (.int .i64 e.cmd.q)∧W.cell? ⟨b,o + 6,none⟩ = some (.int .i64 e.cmd.i)∧W.cell? ⟨b,o + 7,none⟩ = some (.float .f64 e.cmd.p)∧W.cell? ⟨b,o + 8,none⟩ = some (.string e.cmd.g)∧W.cell? ⟨b,o + 9,none⟩ = some (.int .i64 e.id)∧W.cell? ⟨b,o + 10,none⟩ = some (.int .i64 e.other)∧W.cell? ⟨b,o + 11,none⟩ = some (.int .i64 e.qty)∧W.cell? ⟨b,o + 12,none⟩ = some (.int .i64 e.price)∧W.cell? ⟨b,o + 13,none⟩ = some (.int .i64 e.reason):=⟨h 0 _ rfl,h 1 _ rfl,h 2 _ rfl,h 3 _ rfl,h 4 _ rfl,h 5 _ rfl,h 6 _ rfl,h 7 _ rfl,h 8 _ rfl,h 9 _ rfl,h 10 _ rfl,h 11 _ rfl,h 12 _ rfl,h 13 _ rfl⟩
theorem zaG {w:World} {b o n:Nat} (h:w.there b o n) (j:Nat) (hj:j < n):∃ v,w.cell? ⟨b,o + j,none⟩ = some v∧w.frozen? ⟨b,o + j,none⟩ = false:=by
 obtain ⟨h1,h2⟩:=h j hj
 obtain ⟨v,hv⟩:=Option.isSome_iff_exists.1 h1
 exact ⟨v,hv,h2⟩
set_option maxRecDepth 100000 in
set_option maxHeartbeats 1600000 in
theorem toEventS_any (v:Value) (l:List Ev) (w:World) (hr:RdR Ev.vs 14 w v l) :
  Calls Tryz.prog 14 #[v] w fun e w'=>∃ v',e = .returned v'∧OwnR Ev.vs 14 w.heap.size w' v' l∧Below w.heap.size w w':=by
 obtain ⟨a,cap,rfl,hl,hc⟩:=hr
 obtain ⟨i0,hi,hz0,hz1,hz2⟩:=info_parts Tryz.infoEvent
 have hcell:∀ (k:Nat) (c:Ev),l[k]? = some c→∃ b off,a = some ⟨b,off,none⟩∧b < w.heap.size∧w.rangeAt b (off + k * 14) c.vs:=by
  intro k c hk
  obtain ⟨b,off,h1,h2,h3⟩:=hc (by intro h; rw [h] at hk; simp at hk)
  exact ⟨b,off,h1,h2,h3 k c hk⟩
 have HC:=hide hcell
 clear hcell hc
 go_enter Tryz.func14,Tryz.ntmps14
 go_wp2_with (at_make; go_must (refine wpList_make_full _ rfl _ _ 36 rfl w.heap.size 43 i0 _ 14 Tryz.underlying36 hi hz0 hz1 _ _ _ _ l.length rfl rfl rfl rfl (by rw [hz2]; omega) (by unfold maxLen; omega) (Nat.le_refl _) ?_); intro w1 hown hgrow)
 have HA:=hide (fill_made (f:=Ev.vs) hown hgrow)
 clear hown hgrow hi hz0 hz1 hz2
 go_loopw [4] (fun i wr=>∃ k:Nat,k ≤ l.length∧i = .int .i64 k∧FillR Ev.vs 14 l.length w.heap.size w wr (l.take k)) (fun i _=>l.length - (intOf i).toNat)
 case atStart=>exact ⟨0,Nat.zero_le _,rfl,by simpa using za HA⟩
 case round =>
  obtain ⟨k,hk,rfl,harr⟩:=hrel
  have HF:=hide harr
  clear harr HA
  by_cases hlt:k < l.length
  ·obtain ⟨c,hkc⟩:∃ c,l[k]? = some c:=⟨_,List.getElem?_eq_getElem hlt⟩
   have HKC:=hide hkc
   obtain ⟨b,off,rfl,hb,hcl⟩:=za HC k c hkc
   have hcr:=zb hcl (za HF).2.2.2.2 hb
   obtain ⟨g0,g1,g2,g3,g4,g5,g6,g7,g8,g9,g10,g11,g12,g13⟩:=zaL9 hcr
   have hlt':(k:Int) < l.length:=by omega
   clear hkc hcl hb hcr
   go_wp2_with fail
   refine (toEvent_any c _).mono ?_
   rintro e w2 ⟨rfl,hb2⟩
   unfold evV
   have HF2:=hide (fill_below (za HF) hb2 (Nat.le_refl _))
   clear hb2
   have ht14:=fill_there (za HF2) hlt
   obtain ⟨x0,y0,z0⟩:=zaG ht14 0 (by omega)
   obtain ⟨x1,y1,z1⟩:=zaG ht14 1 (by omega)
   obtain ⟨x2,y2,z2⟩:=zaG ht14 2 (by omega)
   obtain ⟨x3,y3,z3⟩:=zaG ht14 3 (by omega)
   obtain ⟨x4,y4,z4⟩:=zaG ht14 4 (by omega)
   obtain ⟨x5,y5,z5⟩:=zaG ht14 5 (by omega)
   obtain ⟨x6,y6,z6⟩:=zaG ht14 6 (by omega)
   obtain ⟨x7,y7,z7⟩:=zaG ht14 7 (by omega)
   obtain ⟨x8,y8,z8⟩:=zaG ht14 8 (by omega)
   obtain ⟨x9,y9,z9⟩:=zaG ht14 9 (by omega)
   obtain ⟨x10,y10,z10⟩:=zaG ht14 10 (by omega)
   obtain ⟨x11,y11,z11⟩:=zaG ht14 11 (by omega)
   obtain ⟨x12,y12,z12⟩:=zaG ht14 12 (by omega)
   obtain ⟨x13,y13,z13⟩:=zaG ht14 13 (by omega)
   rw [Nat.add_zero] at y0 z0
   clear ht14
   have hsf:=sfl
   go_wp2_with fail
   go_roundw
   case rel =>
    refine ⟨k + 1,by omega,by go_num,?_⟩
    have h:=fill_step c (za HF2) (by rw [List.length_take]; omega) Ev.len
    rw [← take_snocE l k c (za HKC),show (l.take k).length = k by rw [List.length_take]; omega] at h
    exact h
   case measure=>simp [intOf]; omega
  ·go_wp2_with fail
   go_ret
   have h:=za HF
   rw [List.take_of_length_le (by omega)] at h
   exact ⟨_,rfl,fill_own h rfl hl,h.2.2.2.2⟩
set_option maxRecDepth 100000 in
set_option maxHeartbeats 400000 in
theorem szEventS_at (v:Value) (l:List Ev) (w:World) (hr:RdR Ev.vs 14 w v l) (x0:Int) (hx0:0 ≤ x0) (hx1:x0 ≤ 1048576) (hl:l.length ≤ x0) (hg:∀ c ∈ l,c.cmd.g.size ≤ maxLen) :
  Calls Tryz.prog 10 #[v,.int .i64 x0] w fun e w'=>∃ y:Int,e = .returned (.int .i64 y)∧y ≤ 1048576∧Below w.heap.size w w':=by
 obtain ⟨a,cap,rfl,_,hc⟩:=hr
 have hcell:∀ (k:Nat) (c:Ev),l[k]? = some c→∃ b off,a = some ⟨b,off,none⟩∧b < w.heap.size∧w.rangeAt b (off + k * 14) c.vs:=by
  intro k c hk
  obtain ⟨b,off,h1,h2,h3⟩:=hc (by intro h; rw [h] at hk; simp at hk)
  exact ⟨b,off,h1,h2,h3 k c hk⟩
 have HC:=hide hcell
 have HG:=hide hg
 clear hcell hc hg
 have hl':¬ (x0 - (l.length:Int) < 0):=by omega
 go_enter Tryz.func10,Tryz.ntmps10
 go_wp2_with fail
 go_loopw [1,5] (fun xv i wr=>∃ (x:Int) (k:Nat),xv = .int .i64 x∧0 ≤ x∧x ≤ 1048576∧k ≤ l.length∧i = .int .i64 k∧Below w.heap.size w wr) (fun _ i _=>l.length - (intOf i).toNat)
 case atStart=>exact ⟨_,0,rfl,by omega,by omega,Nat.zero_le _,rfl,Below.refl _ _⟩
 case round =>
  obtain ⟨x,k,rfl,hy2,hy3,hk,rfl,hbel⟩:=hrel
  have HB:=hide hbel
  clear hbel
  by_cases hlt:k < l.length
  ·obtain ⟨c,hkc⟩:∃ c,l[k]? = some c:=⟨_,List.getElem?_eq_getElem hlt⟩
   obtain ⟨b,off,rfl,hb,hcl⟩:=za HC k c hkc
   have HS:=hide (za HG c (List.mem_of_getElem? hkc))
   obtain ⟨g0,g1,g2,g3,g4,g5,g6,g7,g8,g9,g10,g11,g12,g13⟩:=zaL9 (zb hcl (za HB) hb)
   have hlt':(k:Int) < l.length:=by omega
   clear hkc hcl hb
   go_wp2_with fail
   refine (szEvent_any c x _ hy2 (by omega) (za HS)).mono ?_
   rintro e w2 ⟨y,rfl,hy1,hb2⟩
   have HB2:=hide ((za HB).trans (hb2.mono (za HB).size))
   clear hb2
   by_cases hy:y < 0
   ·go_wp2_with fail
    go_ret
    exact ⟨_,rfl,by omega,za HB2⟩
   ·go_wp2_with fail
    go_roundw
    case rel=>exact ⟨y,k + 1,rfl,by omega,by omega,by omega,by go_num,za HB2⟩
    case measure=>simp [intOf]; omega
  ·go_wp2_with fail
   go_ret
   exact ⟨_,rfl,by omega,za HB⟩
theorem szEventS_far (a:Option Addr) (len cap:Nat) (w:World) (x0:Int) (hx0:0 ≤ x0) (hx1:x0 ≤ 1048576) (hl:x0 < len) (hm:len ≤ maxLen) :
  Calls Tryz.prog 10 #[.slice a len cap,.int .i64 x0] w fun e w'=>e = .returned (.int .i64 (-1))∧w' = w:=by
 unfold maxLen at hm
 have hl':x0 - (len:Int) < 0:=by omega
 go_enter Tryz.func10,Tryz.ntmps10
 go_wp2_with fail
 go_ret
 exact ⟨rfl,rfl⟩

def bl (s:ByteArray):List Int:=s.data.toList.map fun b=>(b.toNat:Int)
end Go.Proofs.YtopjoogdpjaocaaGreat
namespace Go.Proofs.YtopjoogdpjaocaaGreat
open Go

end Go.Proofs.YtopjoogdpjaocaaGreat
namespace Go.Proofs.YtopjoogdpjaocaaGreat
open Go.RowKit




end Go.Proofs.YtopjoogdpjaocaaGreat
namespace Go.Proofs.YtopjoogdpjaocaaGreat
open Go.RowKit Go.ChangeShapes Go.WideShapes Go.Deep
set_option linter.unusedVariables false

structure Ev.ok (e:Ev):Prop where
 k:(Lit.int .i64 e.kind).wf = true
 c:e.cmd.ok
 a:(Lit.int .i64 e.id).wf = true
 o:(Lit.int .i64 e.other).wf = true
 q:(Lit.int .i64 e.qty).wf = true
 p:(Lit.int .i64 e.price).wf = true
 r:(Lit.int .i64 e.reason).wf = true
section
variable {H:Type} {enc:TypeId × Value→H} {w:World} {base:Nat} {spare:Nat→Bool} {held:Bool}
theorem list14 {cs:List Value} (h:cs.length = 14):∃ v0 v1 v2 v3 v4 v5 v6 v7 v8 v9 v10 v11 v12 v13,cs = [v0,v1,v2,v3,v4,v5,v6,v7,v8,v9,v10,v11,v12,v13] :=
 match cs,h with
 | [v0,v1,v2,v3,v4,v5,v6,v7,v8,v9,v10,v11,v12,v13],_=>⟨v0,v1,v2,v3,v4,v5,v6,v7,v8,v9,v10,v11,v12,v13,rfl⟩
theorem ev_opened {fuel:Nat} {cs:List Value} {x:DataW H × List MemPlace} (h:DataW.trod enc Tryz.prog w base spare held fuel 62 cs = some x):∃ e:Ev,cs = e.vs∧e.ok:=by
 obtain ⟨xs,n,_,_,hlen,hxl,hf⟩:=DataW.trod_struct Tryz.underlying62 h
 have hl14:cs.length = 14:=hlen.trans (by kernel_rfl)
 have k3:Tryz.prog.cellsOf 3 = 1:=by kernel_rfl
 have k8:Tryz.prog.cellsOf 60 = 8:=by kernel_rfl
 have hx:∀ i,i < 7→∃ y,xs[i]? = some y:=fun i hi=>⟨_,List.getElem?_eq_getElem (by rw [hxl]; exact hi)⟩
 obtain ⟨y0,e0⟩:=hx 0 (by omega)
 obtain ⟨y1,e1⟩:=hx 1 (by omega)
 obtain ⟨y2,e2⟩:=hx 2 (by omega)
 obtain ⟨y3,e3⟩:=hx 3 (by omega)
 obtain ⟨y4,e4⟩:=hx 4 (by omega)
 obtain ⟨y5,e5⟩:=hx 5 (by omega)
 obtain ⟨y6,e6⟩:=hx 6 (by omega)
 have f0:DataW.trod enc Tryz.prog w base spare held n 3 ((cs.drop 0).take (Tryz.prog.cellsOf 3)) = some y0:=(hf 0 _ rfl).trans e0
 have f1:DataW.trod enc Tryz.prog w base spare held n 60 ((cs.drop 1).take (Tryz.prog.cellsOf 60)) = some y1:=(hf 1 _ rfl).trans e1
 have f2:DataW.trod enc Tryz.prog w base spare held n 3 ((cs.drop 9).take (Tryz.prog.cellsOf 3)) = some y2:=(hf 2 _ rfl).trans e2
 have f3:DataW.trod enc Tryz.prog w base spare held n 3 ((cs.drop 10).take (Tryz.prog.cellsOf 3)) = some y3:=(hf 3 _ rfl).trans e3
 have f4:DataW.trod enc Tryz.prog w base spare held n 3 ((cs.drop 11).take (Tryz.prog.cellsOf 3)) = some y4:=(hf 4 _ rfl).trans e4
 have f5:DataW.trod enc Tryz.prog w base spare held n 3 ((cs.drop 12).take (Tryz.prog.cellsOf 3)) = some y5:=(hf 5 _ rfl).trans e5
 have f6:DataW.trod enc Tryz.prog w base spare held n 3 ((cs.drop 13).take (Tryz.prog.cellsOf 3)) = some y6:=(hf 6 _ rfl).trans e6
 clear hf hx e0 e1 e2 e3 e4 e5 e6 h hlen
 obtain ⟨v0,v1,v2,v3,v4,v5,v6,v7,v8,v9,v10,v11,v12,v13,rfl⟩:=list14 hl14
 clear hl14
 simp only [k3,k8,List.drop_zero,List.drop_succ_cons,List.take_succ_cons,List.take_zero] at f0 f1 f2 f3 f4 f5 f6
 obtain ⟨n0,c0,_,b0⟩:=DataW.trod_int Tryz.underlying3 f0
 obtain ⟨c,c1,b1⟩:=cm_opened f1
 obtain ⟨n2,c2,_,b2⟩:=DataW.trod_int Tryz.underlying3 f2
 obtain ⟨n3,c3,_,b3⟩:=DataW.trod_int Tryz.underlying3 f3
 obtain ⟨n4,c4,_,b4⟩:=DataW.trod_int Tryz.underlying3 f4
 obtain ⟨n5,c5,_,b5⟩:=DataW.trod_int Tryz.underlying3 f5
 obtain ⟨n6,c6,_,b6⟩:=DataW.trod_int Tryz.underlying3 f6
 simp only [Cm.vs,List.cons.injEq,and_true] at c0 c1 c2 c3 c4 c5 c6
 obtain ⟨rfl,rfl,rfl,rfl,rfl,rfl,rfl,rfl⟩:=c1
 subst c0 c2 c3 c4 c5 c6
 exact ⟨⟨n0,c,n2,n3,n4,n5,n6⟩,rfl,⟨b0,b1,b2,b3,b4,b5,b6⟩⟩
end
end Go.Proofs.YtopjoogdpjaocaaGreat
namespace Go.Proofs.YtopjoogdpjaocaaGreat
open Go.RowKit Go.ChangeShapes Go.WideShapes Go.Deep
set_option linter.unusedVariables false

section
variable {H:Type} {enc:TypeId × Value→H} {w:World} {base:Nat} {spare:Nat→Bool} {held:Bool}
def zaV (w:World) (a:Option Addr) (len cap:Nat):Prop :=
 len ≤ maxLen∧(len ≤ 1073741824→∃ l:List Ev,l.length = len∧RdR Ev.vs 14 w (.slice a len cap) l∧∀ c ∈ l,c.ok)
theorem events_opened {fuel:Nat} {a:Option Addr} {len cap:Nat} {x:DataW H × List MemPlace} (h:DataW.trod enc Tryz.prog w base spare held fuel 34 [.slice a len cap] = some x):zaV w a len cap:=by
 rcases open_slice Tryz.underlying34 h with ⟨hcs,_⟩ | ⟨ad,ln,cp,m,n,D,Pl,hcs,_,hl,hm,hmm,_,hel⟩
 ·simp only [List.cons.injEq,Value.slice.injEq,and_true] at hcs
  obtain ⟨rfl,rfl,rfl⟩:=hcs
  exact ⟨Nat.zero_le _,fun _=>⟨[],rfl,⟨none,0,rfl,by simp,fun h=>absurd rfl h⟩,by simp⟩⟩
 ·simp only [List.cons.injEq,Value.slice.injEq,and_true] at hcs
  obtain ⟨rfl,rfl,rfl⟩:=hcs
  have k37:Tryz.prog.cellsOf 62 = 14:=by kernel_rfl
  rw [k37] at hel
  have hlm:len ≤ m:=by rw [hmm]; split <;> omega
  refine ⟨by omega,fun hb=>?_⟩
  have hc:∀ i,i < len→∃ c:Ev,c.ok∧∀ j v,c.vs[j]? = some v→w.cell? (ad.add (i * 14 + j)) = some v:=by
   intro i hi
   obtain ⟨cs',h1,h2⟩:=hel i (by omega)
   obtain ⟨c,rfl,hok⟩:=ev_opened h2
   obtain ⟨_,_,hcell⟩:=World.cells?_some h1
   refine ⟨c,hok,fun j v hv=>?_⟩
   have:=hcell j (List.getElem?_eq_some_iff.1 hv).1
   rw [add_add] at this
   rw [this,hv]
  have hb0:0 < len→∃ b off,ad = ⟨b,off,none⟩∧b < w.heap.size:=by
   intro hp
   obtain ⟨c,_,h0⟩:=hc 0 hp
   have h0:=h0 0 _ rfl
   obtain ⟨b,off,spot⟩:=ad
   have hspot:spot = none:=by simpa [Addr.add] using World.cell?_spot h0
   subst hspot
   exact ⟨b,off,rfl,by have:=World.block_lt_of_cell? w _ h0; simpa [Addr.add] using this⟩
  haveI:Inhabited Ev:=⟨⟨0,⟨0,0,0,0,0,0,0,⟨#[]⟩⟩,0,0,0,0,0⟩⟩
  obtain ⟨F,hF⟩:=choose_lt hc
  have hget:∀ i c,((List.range len).map F)[i]? = some c→i < len∧c = F i:=by
   intro i c hi
   have hlt:i < len:=by simpa using (List.getElem?_eq_some_iff.1 hi).1
   refine ⟨hlt,?_⟩
   rw [List.getElem?_map,List.getElem?_range hlt] at hi
   simpa using hi.symm
  refine ⟨(List.range len).map F,by simp,⟨some ad,cap,by simp,by simpa using hb,fun hne=>?_⟩,fun c hcm=>?_⟩
  ·have hp:0 < len:=by
    rcases Nat.eq_zero_or_pos len with h0 | h0
    ·subst h0; simp at hne
    ·exact h0
   obtain ⟨b,off,rfl,hlt⟩:=hb0 hp
   refine ⟨b,off,rfl,hlt,fun i c hi j v hv=>?_⟩
   obtain ⟨hi',rfl⟩:=hget i c hi
   have:=(hF i hi').2 j v hv
   rw [Addr.add_mid] at this
   rw [Nat.add_assoc]; exact this
  ·obtain ⟨i,hi⟩:=List.mem_iff_getElem?.1 hcm
   obtain ⟨hi',rfl⟩:=hget i c hi
   exact (hF i hi').1
end
end Go.Proofs.YtopjoogdpjaocaaGreat
namespace Go.Proofs.YtopjoogdpjaocaaGreat
open Go.RowKit Go.ChangeShapes Go.WideShapes Go.Deep
set_option linter.unusedVariables false

structure Gc where
 a:Option Addr
 len:Nat
 cap:Nat
def Gc.v (g:Gc):Value:=.slice g.a g.len g.cap
def Gc.vs (g:Gc):List Value:=[g.v]
section
variable {H:Type} {enc:TypeId × Value→H} {w:World} {base:Nat} {spare:Nat→Bool} {held:Bool}
def IsGroups (w:World) (a:Option Addr) (len cap:Nat):Prop :=
 len ≤ maxLen∧(len ≤ 1073741824→∃ l:List Gc,l.length = len∧RdR Gc.vs 1 w (.slice a len cap) l∧∀ c ∈ l,zaV w c.a c.len c.cap)
theorem gc_opened {fuel:Nat} {cs:List Value} {x:DataW H × List MemPlace} (h:DataW.trod enc Tryz.prog w base spare held fuel 34 cs = some x):∃ c:Gc,cs = c.vs∧zaV w c.a c.len c.cap:=by
 rcases open_slice Tryz.underlying34 h with ⟨hcs,_⟩ | ⟨ad,ln,cp,m,n,D,Pl,hcs,_,hl,hm,hmm,_,hel⟩
 ·subst hcs
  exact ⟨⟨_,_,_⟩,rfl,events_opened h⟩
 ·subst hcs
  exact ⟨⟨_,_,_⟩,rfl,events_opened h⟩
theorem groups_opened {fuel:Nat} {a:Option Addr} {len cap:Nat} {x:DataW H × List MemPlace} (h:DataW.trod enc Tryz.prog w base spare held fuel 22 [.slice a len cap] = some x):IsGroups w a len cap:=by
 rcases open_slice Tryz.underlying22 h with ⟨hcs,_⟩ | ⟨ad,ln,cp,m,n,D,Pl,hcs,_,hl,hm,hmm,_,hel⟩
 ·simp only [List.cons.injEq,Value.slice.injEq,and_true] at hcs
  obtain ⟨rfl,rfl,rfl⟩:=hcs
  exact ⟨Nat.zero_le _,fun _=>⟨[],rfl,⟨none,0,rfl,by simp,fun h=>absurd rfl h⟩,by simp⟩⟩
 ·simp only [List.cons.injEq,Value.slice.injEq,and_true] at hcs
  obtain ⟨rfl,rfl,rfl⟩:=hcs
  have k37:Tryz.prog.cellsOf 34 = 1:=by kernel_rfl
  rw [k37] at hel
  have hlm:len ≤ m:=by rw [hmm]; split <;> omega
  refine ⟨by omega,fun hb=>?_⟩
  have hc:∀ i,i < len→∃ c:Gc,zaV w c.a c.len c.cap∧∀ j v,c.vs[j]? = some v→w.cell? (ad.add (i * 1 + j)) = some v:=by
   intro i hi
   obtain ⟨cs',h1,h2⟩:=hel i (by omega)
   obtain ⟨c,rfl,hok⟩:=gc_opened h2
   obtain ⟨_,_,hcell⟩:=World.cells?_some h1
   refine ⟨c,hok,fun j v hv=>?_⟩
   have:=hcell j (List.getElem?_eq_some_iff.1 hv).1
   rw [add_add] at this
   rw [this,hv]
  have hb0:0 < len→∃ b off,ad = ⟨b,off,none⟩∧b < w.heap.size:=by
   intro hp
   obtain ⟨c,_,h0⟩:=hc 0 hp
   have h0:=h0 0 _ rfl
   obtain ⟨b,off,spot⟩:=ad
   have hspot:spot = none:=by simpa [Addr.add] using World.cell?_spot h0
   subst hspot
   exact ⟨b,off,rfl,by have:=World.block_lt_of_cell? w _ h0; simpa [Addr.add] using this⟩
  haveI:Inhabited Gc:=⟨⟨none,0,0⟩⟩
  obtain ⟨F,hF⟩:=choose_lt hc
  have hget:∀ i c,((List.range len).map F)[i]? = some c→i < len∧c = F i:=by
   intro i c hi
   have hlt:i < len:=by simpa using (List.getElem?_eq_some_iff.1 hi).1
   refine ⟨hlt,?_⟩
   rw [List.getElem?_map,List.getElem?_range hlt] at hi
   simpa using hi.symm
  refine ⟨(List.range len).map F,by simp,⟨some ad,cap,by simp,by simpa using hb,fun hne=>?_⟩,fun c hcm=>?_⟩
  ·have hp:0 < len:=by
    rcases Nat.eq_zero_or_pos len with h0 | h0
    ·subst h0; simp at hne
    ·exact h0
   obtain ⟨b,off,rfl,hlt⟩:=hb0 hp
   refine ⟨b,off,rfl,hlt,fun i c hi j v hv=>?_⟩
   obtain ⟨hi',rfl⟩:=hget i c hi
   have:=(hF i hi').2 j v hv
   rw [Addr.add_mid] at this
   rw [Nat.add_assoc]; exact this
  ·obtain ⟨i,hi⟩:=List.mem_iff_getElem?.1 hcm
   obtain ⟨hi',rfl⟩:=hget i c hi
   exact (hF i hi').1
end
theorem groups_rd {w:World} {a:Option Addr} {len cap:Nat} {l:List Gc} (hr:RdR Gc.vs 1 w (.slice a len cap) l) (hi:∀ c ∈ l,zaV w c.a c.len c.cap) (hs:∀ c ∈ l,c.len ≤ 1048576):∃ gs:List (List Ev),RdG w (.slice a len cap) gs∧gs.length = l.length∧∀ g ∈ gs,∀ e ∈ g,e.ok:=by
 have hc:∀ i,i < l.length→∃ es:List Ev,(∀ e ∈ es,e.ok)∧∀ c,l[i]? = some c→RdR Ev.vs 14 w c.v es:=by
  intro i hlt
  have hm:=List.getElem_mem hlt
  obtain ⟨es,h1,h2,h3⟩:=(hi _ hm).2 (by have:=hs _ hm; omega)
  exact ⟨es,h3,fun c h=>by rw [List.getElem?_eq_getElem hlt] at h; cases h; exact h2⟩
 haveI:Inhabited (List Ev):=⟨[]⟩
 obtain ⟨F,hF⟩:=choose_lt hc
 obtain ⟨a',cap',e,hl,h⟩:=hr
 cases e
 refine ⟨(List.range l.length).map F,⟨a,cap,by simp,by simpa using hl,fun hne=>?_⟩,by simp,fun g hg e he=>?_⟩
 ·obtain ⟨b,off,rfl,hlt,h2⟩:=h (by intro h0; subst h0; simp at hne)
  refine ⟨b,off,rfl,hlt,fun i es hes=>?_⟩
  have hil:i < l.length:=by simpa using (List.getElem?_eq_some_iff.1 hes).1
  have hc1:=List.getElem?_eq_getElem hil
  rw [List.getElem?_map,List.getElem?_range hil] at hes
  obtain rfl:F i = es:=by simpa using hes
  have:=h2 i _ hc1 0 _ rfl
  exact ⟨_,by simpa using this,(hF i hil).2 _ hc1⟩
 ·obtain ⟨i,hi'⟩:=List.mem_iff_getElem?.1 hg
  have hil:i < l.length:=by simpa using (List.getElem?_eq_some_iff.1 hi').1
  rw [List.getElem?_map,List.getElem?_range hil] at hi'
  obtain rfl:F i = g:=by simpa using hi'
  exact (hF i hil).1 e he
end Go.Proofs.YtopjoogdpjaocaaGreat
