/-
  Two commands held against each other, two rows of commands, and the size of a row: proved by walking the laws' own helpers.
-/
import Derived.Test.YtdfihaabhichdaaGreatRj03
import Derived.Test.YtdfihaabhichdaaGreatRj21
import Derived.Test.YtdfihaabhichdaaGreatRj31
import Derived.Test.YtdfihaabhichdaaGreatRj32
import Derived.Deep.RegionWith
namespace Go.Proofs.YtdfihaabhichdaaGreat
open Go.RowKit
set_option linter.unusedVariables false

set_option maxRecDepth 100000 in
set_option maxHeartbeats 400000 in
theorem szCmdS_any (v:Value) (l:List Cm) (w:World) (hr:RdR Cm.vs 8 w v l) (hl:l.length ≤ 1048576) (hg:∀ c ∈ l,c.g.size ≤ maxLen) :
    Calls Tryz.prog 18 #[v,.int .i64 1048576] w fun e w'=>∃ y:Int,e = .returned (.int .i64 y)∧-1 ≤ y∧y ≤ 1048576∧Below w.heap.size w w':=by
  obtain ⟨a,cap,rfl,_,hc⟩:=hr
  have hcell:∀ (k:Nat) (c:Cm),l[k]? = some c→∃ b off,a = some ⟨b,off,none⟩∧b < w.heap.size∧w.rangeAt b (off + k * 8) c.vs:=by
    intro k c hk
    obtain ⟨b,off,h1,h2,h3⟩:=hc (by intro h; rw [h] at hk; simp at hk)
    exact ⟨b,off,h1,h2,h3 k c hk⟩
  have HC:=hide hcell
  have HG:=hide hg
  clear hcell hc hg
  have hl':¬ (1048576 - (l.length:Int) < 0):=by omega
  go_enter Tryz.func18,Tryz.ntmps18
  go_wp2_with fail
  go_loopw [1,5] (fun xv i wr=>∃ (x:Int) (k:Nat),xv = .int .i64 x∧0 ≤ x∧x ≤ 1048576∧k ≤ l.length∧i = .int .i64 k∧Below w.heap.size w wr) (fun _ i _=>l.length - (intOf i).toNat)
  case atStart=>exact ⟨_,0,rfl,by omega,by omega,Nat.zero_le _,rfl,Below.refl _ _⟩
  case round =>
    obtain ⟨x,k,rfl,hx0,hx1,hk,rfl,hbel⟩:=hrel
    have HB:=hide hbel
    clear hbel
    by_cases hlt:k < l.length
    · obtain ⟨c,hkc⟩:∃ c,l[k]? = some c:=⟨_,List.getElem?_eq_getElem hlt⟩
      obtain ⟨b,off,rfl,hb,hcl⟩:=za HC k c hkc
      have HS:=hide (za HG c (List.mem_of_getElem? hkc))
      obtain ⟨g0,g1,g2,g3,g4,g5,g6,g7⟩:=zbw (zb hcl (za HB) hb)
      have hlt':(k:Int) < l.length:=by omega
      clear hkc hcl hb
      go_wp2_with fail
      refine (szCmd_any c x _ hx0 (by omega) (za HS)).mono ?_
      rintro e w2 ⟨y,rfl,hy0,hy1,hb2⟩
      have HB2:=hide ((za HB).trans (hb2.mono (za HB).size))
      clear hb2
      by_cases hy:y < 0
      · go_wp2_with fail
        go_ret
        exact ⟨_,rfl,by omega,by omega,za HB2⟩
      · go_wp2_with fail
        go_roundw
        case rel=>exact ⟨y,k + 1,rfl,by omega,by omega,by omega,by go_num,za HB2⟩
        case measure=>simp [intOf]; omega
    · go_wp2_with fail
      go_ret
      exact ⟨_,rfl,by omega,by omega,za HB⟩
theorem szCmdS_long (a:Option Addr) (len cap:Nat) (w:World) (hl:1048576 < len) (hm:len ≤ maxLen) :
    Calls Tryz.prog 18 #[.slice a len cap,.int .i64 1048576] w fun e w'=>e = .returned (.int .i64 (-1))∧w' = w:=by
  unfold maxLen at hm
  have hl':1048576 - (len:Int) < 0:=by omega
  go_enter Tryz.func18,Tryz.ntmps18
  go_wp2_with fail
  go_ret
  exact ⟨rfl,rfl⟩
end Go.Proofs.YtdfihaabhichdaaGreat
namespace Go.Proofs.YtdfihaabhichdaaGreat
open Go.RowKit
set_option linter.unusedVariables false

set_option maxRecDepth 100000 in
set_option maxHeartbeats 1600000 in
theorem eqEvent_same (e:Ev) (w:World) :
  Calls Tryz.prog 41 #[evV e,evV e] w fun x w'=>x = .returned (.bool true)∧Below w.heap.size w w':=by
 obtain ⟨kind,⟨k,s,t,l,q,i,p,g⟩,id,other,qty,price,reason⟩:=e
 unfold evV
 have HE:=hide (fun W=>eqCmd_same ⟨k,s,t,l,q,i,p,g⟩ W)
 simp only at *
 have hs1:(w.alloc (Obj.cells #[.int .i64 kind,.int .i64 k,.int .i64 s,.int .i64 t,.int .i64 l,.int .i64 q,.int .i64 i,.float .f64 p,.string g,.int .i64 id,.int .i64 other,.int .i64 qty,.int .i64 price,.int .i64 reason] 80)).heap.size = w.heap.size + 1:=zf _ _
 have hs2:((w.alloc (Obj.cells #[.int .i64 kind,.int .i64 k,.int .i64 s,.int .i64 t,.int .i64 l,.int .i64 q,.int .i64 i,.float .f64 p,.string g,.int .i64 id,.int .i64 other,.int .i64 qty,.int .i64 price,.int .i64 reason] 80)).alloc (Obj.cells #[.int .i64 kind,.int .i64 k,.int .i64 s,.int .i64 t,.int .i64 l,.int .i64 q,.int .i64 i,.float .f64 p,.string g,.int .i64 id,.int .i64 other,.int .i64 qty,.int .i64 price,.int .i64 reason] 80)).heap.size = w.heap.size + 1 + 1:=by rw [zf,hs1]
 have b1:Below (w.heap.size + 1) (w.alloc (Obj.cells #[.int .i64 kind,.int .i64 k,.int .i64 s,.int .i64 t,.int .i64 l,.int .i64 q,.int .i64 i,.float .f64 p,.string g,.int .i64 id,.int .i64 other,.int .i64 qty,.int .i64 price,.int .i64 reason] 80)) ((w.alloc (Obj.cells #[.int .i64 kind,.int .i64 k,.int .i64 s,.int .i64 t,.int .i64 l,.int .i64 q,.int .i64 i,.float .f64 p,.string g,.int .i64 id,.int .i64 other,.int .i64 qty,.int .i64 price,.int .i64 reason] 80)).alloc (Obj.cells #[.int .i64 kind,.int .i64 k,.int .i64 s,.int .i64 t,.int .i64 l,.int .i64 q,.int .i64 i,.float .f64 p,.string g,.int .i64 id,.int .i64 other,.int .i64 qty,.int .i64 price,.int .i64 reason] 80)):=(Below.refl _ _).alloc (by rw [hs1]; omega) _
 have r1:=zb (zg w [.int .i64 kind,.int .i64 k,.int .i64 s,.int .i64 t,.int .i64 l,.int .i64 q,.int .i64 i,.float .f64 p,.string g,.int .i64 id,.int .i64 other,.int .i64 qty,.int .i64 price,.int .i64 reason] 80) b1 (by omega)
 have r2:=zg (w.alloc (Obj.cells #[.int .i64 kind,.int .i64 k,.int .i64 s,.int .i64 t,.int .i64 l,.int .i64 q,.int .i64 i,.float .f64 p,.string g,.int .i64 id,.int .i64 other,.int .i64 qty,.int .i64 price,.int .i64 reason] 80)) [.int .i64 kind,.int .i64 k,.int .i64 s,.int .i64 t,.int .i64 l,.int .i64 q,.int .i64 i,.float .f64 p,.string g,.int .i64 id,.int .i64 other,.int .i64 qty,.int .i64 price,.int .i64 reason] 80
 rw [hs1] at r2
 have HB:Hid (Below w.heap.size w ((w.alloc (Obj.cells #[.int .i64 kind,.int .i64 k,.int .i64 s,.int .i64 t,.int .i64 l,.int .i64 q,.int .i64 i,.float .f64 p,.string g,.int .i64 id,.int .i64 other,.int .i64 qty,.int .i64 price,.int .i64 reason] 80)).alloc (Obj.cells #[.int .i64 kind,.int .i64 k,.int .i64 s,.int .i64 t,.int .i64 l,.int .i64 q,.int .i64 i,.float .f64 p,.string g,.int .i64 id,.int .i64 other,.int .i64 qty,.int .i64 price,.int .i64 reason] 80))):=((Below.refl _ _).alloc (Nat.le_refl _) _).alloc (by rw [hs1]; omega) _
 have HX:Hid (_∧_∧_):=⟨r1,r2,hs2⟩
 clear r1 r2 b1 hs1 hs2
 go_enter Tryz.func41,Tryz.ntmps41
 go_wp2_with fail
 generalize ((w.alloc (Obj.cells #[.int .i64 kind,.int .i64 k,.int .i64 s,.int .i64 t,.int .i64 l,.int .i64 q,.int .i64 i,.float .f64 p,.string g,.int .i64 id,.int .i64 other,.int .i64 qty,.int .i64 price,.int .i64 reason] 80)).alloc (Obj.cells #[.int .i64 kind,.int .i64 k,.int .i64 s,.int .i64 t,.int .i64 l,.int .i64 q,.int .i64 i,.float .f64 p,.string g,.int .i64 id,.int .i64 other,.int .i64 qty,.int .i64 price,.int .i64 reason] 80)) = W at HX HB ⊢
 obtain ⟨hr1,hr2,hsW⟩:=za HX
 refine (za HE _).mono ?_
 rintro e w2 ⟨rfl,hb2⟩
 have HB2:=hide ((za HB).trans (hb2.mono (za HB).size))
 have q1:=zb hr1 hb2 (by omega)
 have q2:=zb hr2 hb2 (by omega)
 have x9:=q1 9 _ rfl
 have x10:=q1 10 _ rfl
 have x11:=q1 11 _ rfl
 have x12:=q1 12 _ rfl
 have x13:=q1 13 _ rfl
 have y9:=q2 9 _ rfl
 have y10:=q2 10 _ rfl
 have y11:=q2 11 _ rfl
 have y12:=q2 12 _ rfl
 have y13:=q2 13 _ rfl
 clear hr1 hr2 q1 q2 hb2 HX HB hsW
 go_wp2_with fail
 go_returns
 exact ⟨rfl,za HB2⟩
set_option maxRecDepth 100000 in
set_option maxHeartbeats 1600000 in
theorem eqEventS_same (va vb:Value) (l:List Ev) (w:World) (ha:RdR Ev.vs 14 w va l) (hb:RdR Ev.vs 14 w vb l) :
  Calls Tryz.prog 13 #[va,vb] w fun e w'=>e = .returned (.bool true)∧Below w.heap.size w w':=by
 obtain ⟨aa,ca,rfl,hl,hca⟩:=ha
 obtain ⟨ab,cb,rfl,_,hcb⟩:=hb
 have hcell:∀ (k:Nat) (c:Ev),l[k]? = some c→∃ b off b' off',aa = some ⟨b,off,none⟩∧ab = some ⟨b',off',none⟩∧b < w.heap.size∧b' < w.heap.size∧w.rangeAt b (off + k * 14) c.vs∧w.rangeAt b' (off' + k * 14) c.vs:=by
  intro k c hk
  have hne:l ≠ []:=by intro h; rw [h] at hk; simp at hk
  obtain ⟨b,off,h1,h2,h3⟩:=hca hne
  obtain ⟨b',off',h1',h2',h3'⟩:=hcb hne
  exact ⟨b,off,b',off',h1,h1',h2,h2',h3 k c hk,h3' k c hk⟩
 have HC:=hide hcell
 clear hcell hca hcb
 go_enter Tryz.func13,Tryz.ntmps13
 go_wp2_with fail
 go_loopw [5] (fun i wr=>∃ k:Nat,k ≤ l.length∧i = .int .i64 k∧Below w.heap.size w wr) (fun i _=>l.length - (intOf i).toNat)
 case atStart=>exact ⟨0,Nat.zero_le _,rfl,Below.refl _ _⟩
 case round =>
  obtain ⟨k,hk,rfl,hbel⟩:=hrel
  have HB:=hide hbel
  clear hbel
  by_cases hlt:k < l.length
  ·obtain ⟨c,hkc⟩:∃ c,l[k]? = some c:=⟨_,List.getElem?_eq_getElem hlt⟩
   obtain ⟨b,off,b',off',rfl,rfl,hb,hb',hcl,hcl'⟩:=za HC k c hkc
   obtain ⟨g0,g1,g2,g3,g4,g5,g6,g7,g8,g9,g10,g11,g12,g13⟩:=zav (zb hcl (za HB) hb)
   obtain ⟨e0,e1,e2,e3,e4,e5,e6,e7,e8,e9,e10,e11,e12,e13⟩:=zav (zb hcl' (za HB) hb')
   have hlt':(k:Int) < l.length:=by omega
   clear hkc hcl hcl' hb hb'
   go_wp2_with fail
   go_region_with (go_at_call 41; refine (eqEvent_same c _).mono ?_; rintro e w2 ⟨rfl,hb2⟩; have HB2:=hide ((za HB).drew.trans (hb2.mono (za HB).drew.size)); clear hb2)
   go_wp2_with fail
   go_roundw
   case rel=>exact ⟨k + 1,by omega,by go_num,za HB2⟩
   case measure=>simp [intOf]; omega
   all_goals exact ⟨⟨k + 1,by omega,by go_num,za HB2⟩,by simp [intOf]; omega⟩
  ·go_wp2_with fail
   go_ret
   exact ⟨rfl,za HB⟩
end Go.Proofs.YtdfihaabhichdaaGreat
namespace Go.Proofs.YtdfihaabhichdaaGreat
open Go.RowKit
set_option linter.unusedVariables false

def markO (k:Nat):Od:=⟨k,(k:Int) + 1,(k:Int) + 1 + 1,(k:Int) + 1 + 1 + 1,(k:Int) + 1 + 1 + 1 + 1,markS (k + 5)⟩
def mark5 (k:Nat):List Value:=[.int .i64 (k:Int),.int .i64 ((k:Int) + 1),.int .i64 ((k:Int) + 1 + 1),.int .i64 ((k:Int) + 1 + 1 + 1),.int .i64 ((k:Int) + 1 + 1 + 1 + 1)]
def zaz (k n:Nat):List Od:=(List.range n).map fun i=>markO (k + 6 * i)
theorem zax (k n:Nat):(zaz k n).length = n:=by simp [zaz]
theorem marksO_more (k n:Nat):zaz k (n + 1) = zaz k n ++ [markO (k + 6 * n)]:=by simp [zaz,List.range_succ]
theorem marksO_get {k n i:Nat} (h:i < n):(zaz k n)[i]? = some (markO (k + 6 * i)):=by simp [zaz,h]
set_option maxRecDepth 100000 in
set_option maxHeartbeats 800000 in
theorem markOrderS_any (g len cap k:Nat) (w:World) (hl:len ≤ 2097152) (hk0:0 < k) (hk1:k ≤ 1000000000) (hg:g < w.heap.size) (ht:w.there g 0 (len * 6)) :
    Calls Tryz.prog 42 #[.slice (some ⟨g,0,none⟩) len cap,.int .i64 k] w fun e w'=>e = .returned (.int .i64 ((k + 6 * len:Nat):Int))∧MarkR Od.vs 6 len g w w' (zaz k len):=by
  have HM:Hid (MarkR Od.vs 6 len g w w (zaz k 0)):=⟨by simp [zaz],ht,World.grownBy.refl _ _,by simp [zaz],hg⟩
  clear ht
  go_enter Tryz.func42,Tryz.ntmps42
  go_wp2_with fail
  go_loopw [1,5] (fun kv i wr=>∃ m kk:Nat,m ≤ len∧i = .int .i64 m∧kv = .int .i64 kk∧Hid (kk = k + 6 * m)∧MarkR Od.vs 6 len g w wr (zaz k m)) (fun _ i _=>len - (intOf i).toNat)
  case atStart=>exact ⟨0,k,Nat.zero_le _,rfl,rfl,rfl,za HM⟩
  case round =>
    obtain ⟨m,kk,hm,rfl,rfl,hkk,hmr⟩:=hrel
    have HR:=hide hmr
    have hkb:(kk:Int) ≤ 1020000000:=by have:=za hkk; omega
    clear hmr HM
    by_cases hlt:m < len
    · obtain ⟨⟨x0,y0,z0⟩,⟨x1,y1,z1⟩,⟨x2,y2,z2⟩,⟨x3,y3,z3⟩,⟨x4,y4,z4⟩,x5,y5,z5⟩:=there6 (zap (i:=m * 6) (m:=6) (za HR).2.1 (by omega))
      have hlt':(m:Int) < len:=by omega
      go_wp2_with fail
      refine (zbq _ (kk + 5) _ (by omega) (by omega) (by omega)).mono ?_
      rintro e W2 ⟨rfl,hb⟩
      have hb':Below (wr.setCells g (m * 6) (mark5 kk)).heap.size (wr.setCells g (m * 6) (mark5 kk)) W2:=hb
      have T2:=zd (World.there_setCells (za HR).2.1 g (m * 6) (mark5 kk)) hb' (by rw [zv]; exact (za HR).2.2.2.2)
      obtain ⟨v7,c7,f7⟩:=zcc (zap (i:=m * 6 + 5) (m:=1) T2 (by omega)) 0 (by omega)
      have HB:=hide hb'
      clear hb hb' T2 y0 z0 y1 z1 y2 z2 y3 z3 y4 z4 y5 z5
      rw [Nat.add_zero] at c7 f7
      go_wp2_with fail
      go_roundw
      case rel =>
        refine ⟨m + 1,kk + 6,by omega,by go_num,congrArg (Value.int .i64) (by omega),by have:=za hkk; show kk + 6 = _; omega,?_⟩
        have h:=mark_stepR (markO kk) (mark5 kk) (.string (markS (kk + 5))) rfl (za HR) (by rw [zax]; exact hlt) Od.len (by rw [zax]; exact za HB) (by rw [zv]; exact Nat.le_refl _)
        rw [zax,za hkk,← marksO_more,← za hkk] at h
        exact h
      case measure=>simp [intOf]; omega
    · go_wp2_with fail
      go_ret
      obtain rfl:m = len:=by omega
      have h:=za hkk
      subst h
      exact ⟨rfl,za HR⟩
set_option maxRecDepth 100000 in
set_option maxHeartbeats 800000 in
theorem heldOrderS_any (v:Value) (len k:Nat) (w:World) (hl:len ≤ 2097152) (hk0:0 < k) (hk1:k ≤ 1000000000) (hr:RdR Od.vs 6 w v (zaz k len)) :
    Calls Tryz.prog 44 #[v,.int .i64 k] w fun e w'=>e = .returned (.int .i64 ((k + 6 * len:Nat):Int))∧Below w.heap.size w w':=by
  obtain ⟨a,cap,rfl,_,hc⟩:=hr
  rw [zax]
  have hcell:∀ (m:Nat),m < len→∃ b off,a = some ⟨b,off,none⟩∧b < w.heap.size∧w.rangeAt b (off + m * 6) (markO (k + 6 * m)).vs:=by
    intro m hm
    have hg:=marksO_get (k:=k) hm
    obtain ⟨b,off,h1,h2,h3⟩:=hc (by intro h; rw [h] at hg; simp at hg)
    exact ⟨b,off,h1,h2,h3 m _ hg⟩
  have HC:=hide hcell
  clear hcell hc
  go_enter Tryz.func44,Tryz.ntmps44
  go_wp2_with fail
  go_loopw [1,5] (fun kv i wr=>∃ m kk:Nat,m ≤ len∧i = .int .i64 m∧kv = .int .i64 kk∧Hid (kk = k + 6 * m)∧Below w.heap.size w wr) (fun _ i _=>len - (intOf i).toNat)
  case atStart=>exact ⟨0,k,Nat.zero_le _,rfl,rfl,rfl,Below.refl _ _⟩
  case round =>
    obtain ⟨m,kk,hm,rfl,rfl,hkk,hbel⟩:=hrel
    have HB:=hide hbel
    have hkb:(kk:Int) ≤ 1020000000:=by have:=za hkk; omega
    clear hbel
    by_cases hlt:m < len
    · obtain ⟨b,off,rfl,hb,hcl⟩:=za HC m hlt
      rw [← za hkk] at hcl
      obtain ⟨g0,g1,g2,g3,g4,g5⟩:=zC (zb hcl (za HB) hb)
      simp only [markO] at g0 g1 g2 g3 g4 g5
      have HG5:=hide g5
      have hlt':(m:Int) < len:=by omega
      have hbw:Hid (b < wr.heap.size):=Nat.lt_of_lt_of_le hb (za HB).size
      clear hcl hb
      go_wp2_with fail
      go_region_with (go_at_call 43; refine (zbq _ (kk + 5) _ (by omega) (by omega) (by omega)).mono ?_; rintro e W2 ⟨rfl,hb2⟩; have c7:=(hb2.cell (p:=⟨b,off + m * 6 + 5,none⟩) (za hbw)).trans (za HG5); have HB2:=hide ((za HB).drew.trans (hb2.mono (za HB).drew.size)); clear hb2)
      all_goals go_wp2_with fail
      all_goals
        exact ⟨⟨m + 1,kk + 6,by omega,by go_num,congrArg (Value.int .i64) (by omega),by have:=za hkk; show kk + 6 = _; omega,za HB2⟩,by simp [intOf]; omega⟩
    · go_wp2_with fail
      go_ret
      obtain rfl:m = len:=by omega
      have h:=za hkk
      subst h
      exact ⟨rfl,za HB⟩
theorem markOrderS_nil (a:Option Addr) (cap k:Nat) (w:World) :
    Calls Tryz.prog 42 #[.slice a 0 cap,.int .i64 k] w fun e w'=>e = .returned (.int .i64 k)∧w' = w:=by
  go_enter Tryz.func42,Tryz.ntmps42
  go_wp2
  refine wp_loop_rounds 1 ?_
  rw [rounds_succ]
  go_wp2
  go_ret
  exact ⟨rfl,rfl⟩
end Go.Proofs.YtdfihaabhichdaaGreat
namespace Go.Proofs.YtdfihaabhichdaaGreat
open Go.RowKit
set_option linter.unusedVariables false

theorem heldBook_any (n:Int) (v:Value) (len k:Nat) (w:World) (hl:len ≤ 2097152) (hk0:0 < k) (hk1:k ≤ 1000000000) (hr:RdR Od.vs 6 w v (zaz k len)) :
    Calls Tryz.prog 16 #[.agg #[.int .i64 n,v],.int .i64 k] w fun e w'=>e = .returned (.int .i64 ((k + 6 * len:Nat):Int))∧Below w.heap.size w w':=by
  have HA:Hid (RdR Od.vs 6 (w.alloc (Obj.cells #[.int .i64 n,v] 32)) v (zaz k len)):=by
    obtain ⟨a,cap,rfl,h1,h2⟩:=hr
    refine ⟨a,cap,rfl,h1,fun hne=>?_⟩
    obtain ⟨b,off,e1,hb,hc⟩:=h2 hne
    exact ⟨b,off,e1,Nat.lt_of_lt_of_le hb (by rw [zf]; omega),fun i c hi=>zb (hc i c hi) ((Below.refl _ _).alloc (Nat.le_refl _) _) hb⟩
  have HB:Hid (Below w.heap.size w (w.alloc (Obj.cells #[.int .i64 n,v] 32))):=(Below.refl _ _).alloc (Nat.le_refl _) _
  obtain ⟨a,cap,rfl,_,_⟩:=hr
  rw [zax] at *
  have hneg:¬ (((k + 6 * len:Nat):Int) < 0):=by omega
  go_enter Tryz.func16,Tryz.ntmps16
  go_wp2_with fail
  refine (heldOrderS_any _ len k _ hl hk0 hk1 (za HA)).mono ?_
  rintro e w2 ⟨rfl,hb2⟩
  have HB2:=hide ((za HB).trans (hb2.mono (za HB).size))
  clear hb2
  generalize hkk:((k + 6 * len:Nat):Int) = kk at hneg ⊢
  have HK:=hide hkk
  clear hkk
  go_wp2_with fail
  go_ret
  exact ⟨by rw [za HK]; rfl,za HB2⟩
end Go.Proofs.YtdfihaabhichdaaGreat
namespace Go.Proofs.YtdfihaabhichdaaGreat
open Go.RowKit
set_option linter.unusedVariables false

def mgL:Nat→List (List Ev)→List (List Ev)
  | _,[]=>[]
  | k,es :: r=>zaQ k es.length :: mgL (k + 14 * es.length) r
def evN:List (List Ev)→Nat
  | []=>0
  | es :: r=>es.length + evN r
theorem zcp:∀ (gl:List (List Ev)) (k:Nat),(mgL k gl).length = gl.length
  | [],_=>rfl
  | es :: r,k=>by simp [mgL,zcp r]
theorem evN_snoc (es:List Ev):∀ gl:List (List Ev),evN (gl ++ [es]) = evN gl + es.length
  | []=>by simp [evN]
  | a :: r=>by simp only [List.cons_append,evN,evN_snoc es r]; omega
theorem evN_take {gl:List (List Ev)} {i:Nat} {es:List Ev} (h:gl[i]? = some es):evN (gl.take (i + 1)) = evN (gl.take i) + es.length:=by
  rw [List.take_add_one,h]; exact evN_snoc es _
theorem mgL_get:∀ (gl:List (List Ev)) (k i:Nat) (es:List Ev),gl[i]? = some es→(mgL k gl)[i]? = some (zaQ (k + 14 * evN (gl.take i)) es.length)
  | [],_,i,es,h=>by simp at h
  | a :: r,k,0,es,h=>by
    simp at h; subst h; simp [mgL,evN]
  | a :: r,k,i + 1,es,h=>by
    have:=mgL_get r (k + 14 * a.length) i es (by simpa using h)
    simp only [mgL,List.getElem?_cons_succ,this,List.take_succ_cons,evN]
    congr 2
    omega
theorem evN_le {gl:List (List Ev)} {n:Nat} (h:∀ es ∈ gl,es.length ≤ n):evN gl ≤ n * gl.length:=by
  induction gl with
  | nil=>simp [evN]
  | cons a r ih =>
    have h1:=h a List.mem_cons_self
    have h2:=ih (fun es he=>h es (List.mem_cons_of_mem _ he))
    simp only [evN,List.length_cons,Nat.mul_add,Nat.mul_one]
    omega
theorem zbJ {gl:List (List Ev)} {n m:Nat} (h:∀ es ∈ gl,es.length ≤ n) (hm:gl.length ≤ m) (i:Nat):evN (gl.take i) ≤ n * m:=by
  have h1:=evN_le (gl:=gl.take i) (n:=n) (fun es he=>h es (List.mem_of_mem_take he))
  have h2:(gl.take i).length ≤ m:=Nat.le_trans (List.length_take_le' _ _) hm
  exact Nat.le_trans h1 (Nat.mul_le_mul_left _ h2)
structure GO (W:World) (B:Nat) (a:Option Addr) (gs:List Value) (gl:List (List Ev)):Prop where
  len:gs.length = gl.length
  cells:∀ (i:Nat) (g:Value),gs[i]? = some g→∃ gb,a = some ⟨gb,0,none⟩∧gb < W.heap.size∧W.cell? ⟨gb,0 + i,none⟩ = some g
  each:∀ (i:Nat) (g:Value) (es:List Ev),gs[i]? = some g→gl[i]? = some es→OwnR Ev.vs 14 B W g es
  apt:gs.Pairwise fun g g'=>∀ b b',g.ownBlock = some b→g'.ownBlock = some b'→b < b'
  out:∀ gb,a = some ⟨gb,0,none⟩→∀ g ∈ gs,g.ownBlock ≠ some gb
  lt:∀ g ∈ gs,∀ b,g.ownBlock = some b→B ≤ b∧b < W.heap.size
  lo:∀ gb,a = some ⟨gb,0,none⟩→B ≤ gb∧gb < W.heap.size
theorem go_of {W:World} {B:Nat} {gv:Value} {gl:List (List Ev)} (h:GRa W B gv gl) (hl:∀ es ∈ gl,es.length ≤ 1073741824):∃ a cap gs,gv = .slice a gs.length cap∧GO W B a gs gl∧GRow W B gv gs∧∀ g ∈ gs,∃ es,ERow W B g es:=by
  obtain ⟨gs,hrow,hlen,heach,hapt⟩:=h.ex
  have hea:∀ (i:Nat) (g:Value) (es:List Ev),gs[i]? = some g→gl[i]? = some es→OwnR Ev.vs 14 B W g es:=fun i g es hg hes=>zaG Ev.len (hl es (List.mem_of_getElem? hes)) (heach i g es hg hes)
  have hev:∀ g ∈ gs,∃ es,ERow W B g es:=fun x hx=>by
    obtain ⟨i,hi⟩:=List.mem_iff_getElem?.1 hx
    obtain ⟨es,hes⟩:∃ es,gl[i]? = some es:=⟨_,List.getElem?_eq_getElem (by rw [← hlen]; exact (List.getElem?_eq_some_iff.1 hi).1)⟩
    exact ⟨es,heach i x es hi hes⟩
  rcases hrow.2 with ⟨h1,h0⟩ | ⟨g,cap,cur,h1,hB,hg,h4,h5,h6,h7⟩
  · have hgs:gs = []:=List.length_eq_zero_iff.1 h0
    subst hgs
    exact ⟨none,0,[],h1,⟨hlen,by simp,hea,hapt,by simp,by simp,by simp⟩,hrow,hev⟩
  · refine ⟨_,cap,gs,h1,⟨hlen,fun i x hx=>⟨g,rfl,(Array.getElem?_eq_some_iff.1 hg).1,?_⟩,hea,hapt,fun gb hgb x hx e=>?_,fun x hx b hb=>?_,fun gb hgb=>?_⟩,hrow,hev⟩
    · rw [Nat.zero_add,cell_of_row W g i cur _ (0,0) hg]
      have hi:=(List.getElem?_eq_some_iff.1 hx).1
      have h8:(cur.toList.take (gs.length * 1))[i]? = gs[i]?:=by rw [h7]
      rw [List.getElem?_take,if_pos (by omega),hx] at h8
      simpa using h8
    · obtain ⟨i,hi⟩:=List.mem_iff_getElem?.1 hx
      obtain ⟨es,hes⟩:∃ es,gl[i]? = some es:=⟨_,List.getElem?_eq_getElem (by rw [← hlen]; exact (List.getElem?_eq_some_iff.1 hi).1)⟩
      rcases zz hrow (heach i x es hi hes) (by decide) with h8 | h8
      · rw [h1] at h8; simp [Value.ownBlock] at h8
      · rw [h1] at h8
        simp only [Option.some.injEq,Addr.mk.injEq,and_true] at hgb
        subst hgb
        exact h8 (by rw [e]; rfl)
    · obtain ⟨i,hi⟩:=List.mem_iff_getElem?.1 hx
      obtain ⟨es,hes⟩:∃ es,gl[i]? = some es:=⟨_,List.getElem?_eq_getElem (by rw [← hlen]; exact (List.getElem?_eq_some_iff.1 hi).1)⟩
      exact (heach i x es hi hes).lt b hb
    · simp only [Option.some.injEq,Addr.mk.injEq,and_true] at hgb
      subst hgb
      exact ⟨hB,(Array.getElem?_eq_some_iff.1 hg).1⟩
theorem go_below {C:Nat} {W W':World} {B:Nat} {a:Option Addr} {gs:List Value} {gl:List (List Ev)} (h:GO W B a gs gl) (hb:Below C W W') (hC:W.heap.size ≤ C):GO W' B a gs gl :=
  ⟨h.len,fun i g hg=>by
    obtain ⟨gb,h1,h2,h3⟩:=h.cells i g hg
    exact ⟨gb,h1,Nat.lt_of_lt_of_le h2 hb.size,(hb.cell (p:=⟨gb,0 + i,none⟩) (Nat.lt_of_lt_of_le h2 hC)).trans h3⟩,fun i g es hg hes=>zao (h.each i g es hg hes) hb hC,h.apt,h.out,fun g hg b e=>⟨(h.lt g hg b e).1,Nat.lt_of_lt_of_le (h.lt g hg b e).2 hb.size⟩,fun gb e=>⟨(h.lo gb e).1,Nat.lt_of_lt_of_le (h.lo gb e).2 hb.size⟩⟩
structure KG (gs:List Value) (w w':World):Prop where
  os:w'.os = w.os
  tape:w'.tape = w.tape
  output:w'.output = w.output
  size:w.heap.size ≤ w'.heap.size
  block:∀ k,k < w.heap.size→(∀ g ∈ gs,g.ownBlock ≠ some k)→w'.heap[k]? = w.heap[k]?
theorem kg_refl (gs:List Value) (w:World):KG gs w w:=⟨rfl,rfl,rfl,Nat.le_refl _,fun _ _ _=>rfl⟩
theorem kg_step {gs:List Value} {w w1 w2:World} {G:Option Nat} (h:KG gs w w1) (hg:w1.grownBy w2 G) (hG:∀ b,G = some b→∃ g ∈ gs,g.ownBlock = some b):KG gs w w2 :=
  ⟨hg.os.trans h.os,hg.tape.trans h.tape,hg.output.trans h.output,Nat.le_trans h.size hg.size,fun k hk hn=>(hg.block k (Nat.lt_of_lt_of_le hk h.size) (fun e=>by
    obtain ⟨g,h1,h2⟩:=hG k e.symm
    exact hn g h1 h2)).trans (h.block k hk hn)⟩
theorem go_set {W W':World} {B:Nat} {a:Option Addr} {gs:List Value} {gl:List (List Ev)} {m:Nat} {g:Value} {es:List Ev} {G:Option Nat} (h:GO W B a gs gl) (hg:gs[m]? = some g) (hgr:W.grownBy W' G) (hG:∀ b,G = some b→g.ownBlock = some b) (ho:OwnR Ev.vs 14 B W' g es) (hm:m < gl.length):GO W' B a gs (gl.set m es):=by
  refine ⟨by rw [List.length_set]; exact h.len,fun i x hx=>?_,fun i x xs hx hxs=>?_,h.apt,h.out,fun g hg b e=>⟨(h.lt g hg b e).1,Nat.lt_of_lt_of_le (h.lt g hg b e).2 hgr.size⟩,fun gb e=>⟨(h.lo gb e).1,Nat.lt_of_lt_of_le (h.lo gb e).2 hgr.size⟩⟩
  · obtain ⟨gb,h1,h2,h3⟩:=h.cells i x hx
    refine ⟨gb,h1,Nat.lt_of_lt_of_le h2 hgr.size,(World.cell?_of_block (a:=⟨gb,0 + i,none⟩) (hgr.block gb h2 (fun e=>?_))).trans h3⟩
    exact h.out gb h1 g (List.mem_of_getElem? hg) (hG gb e.symm)
  · by_cases him:m = i
    · subst him
      rw [hg] at hx
      obtain rfl:=Option.some.inj hx
      rw [List.getElem?_set_self hm] at hxs
      obtain rfl:=Option.some.inj hxs
      exact ho
    · rw [List.getElem?_set_ne him] at hxs
      refine ownR_grown (h.each i x xs hx hxs) hgr (fun hne e=>?_)
      obtain ⟨b,hb,_,_⟩:=ownR_lt (h.each i x xs hx hxs) hne
      rw [hb] at e
      have hgb:=hG b e.symm
      rcases Nat.lt_or_gt_of_ne him with hlt | hlt
      · have:=(List.pairwise_iff_getElem.1 h.apt) m i (List.getElem?_eq_some_iff.1 hg).1 (List.getElem?_eq_some_iff.1 hx).1 hlt
        rw [(List.getElem?_eq_some_iff.1 hg).2,(List.getElem?_eq_some_iff.1 hx).2] at this
        have:=this b b hgb hb
        omega
      · have:=(List.pairwise_iff_getElem.1 h.apt) i m (List.getElem?_eq_some_iff.1 hx).1 (List.getElem?_eq_some_iff.1 hg).1 hlt
        rw [(List.getElem?_eq_some_iff.1 hg).2,(List.getElem?_eq_some_iff.1 hx).2] at this
        have:=this b b hb hgb
        omega
def mixL (k:Nat) (gl:List (List Ev)) (m:Nat):List (List Ev):=(mgL k gl).take m ++ gl.drop m
theorem mix_len (k:Nat) (gl:List (List Ev)) (m:Nat):(mixL k gl m).length = gl.length:=by
  simp [mixL,zcp]; omega
theorem mix_at {k m:Nat} {gl:List (List Ev)} {es:List Ev} (h:gl[m]? = some es):(mixL k gl m)[m]? = some es:=by
  have hm:=(List.getElem?_eq_some_iff.1 h).1
  have h1:((mgL k gl).take m).length = m:=by simp [zcp]; omega
  unfold mixL
  rw [List.getElem?_append_right (by omega),h1,Nat.sub_self,List.getElem?_drop,Nat.add_zero,h]
theorem mix_next {k m:Nat} {gl:List (List Ev)} {es:List Ev} (h:gl[m]? = some es):(mixL k gl m).set m (zaQ (k + 14 * evN (gl.take m)) es.length) = mixL k gl (m + 1):=by
  have hm:=(List.getElem?_eq_some_iff.1 h).1
  have h1:((mgL k gl).take m).length = m:=by simp [zcp]; omega
  unfold mixL
  rw [List.set_append_right _ _ (by omega),h1,Nat.sub_self,List.take_add_one,mgL_get gl k m es h]
  rw [List.drop_eq_getElem_cons hm,List.set_cons_zero,List.append_assoc]
  rfl
set_option maxRecDepth 100000 in
set_option maxHeartbeats 800000 in
theorem markGs_any {B:Nat} (a:Option Addr) (cap:Nat) (gs:List Value) (gl:List (List Ev)) (k:Nat) (w:World) (h:GO w B a gs gl) (hn:gl.length ≤ 200) (he:∀ es ∈ gl,es.length ≤ 100) (hk0:0 < k) (hk1:k ≤ 1000) :
    Calls Tryz.prog 49 #[.slice a gs.length cap,.int .i64 k] w fun e w'=>e = .returned (.int .i64 ((k + 14 * evN gl:Nat):Int))∧GO w' B a gs (mgL k gl)∧KG gs w w':=by
  have HG:=hide h
  have HGL:=hide h.len
  have hgn:gs.length ≤ 200:=by rw [h.len]; exact hn
  have HBD:Hid (∀ i,evN (gl.take i) ≤ 20000):=fun i=>zbJ he hn i
  have HE:=hide he
  clear h he
  go_enter Tryz.func49,Tryz.ntmps49
  go_wp2_with fail
  go_loopw [1,5] (fun kv iv wr=>∃ m kk:Nat,m ≤ gs.length∧iv = .int .i64 m∧kv = .int .i64 kk∧Hid (kk = k + 14 * evN (gl.take m))∧Hid (GO wr B a gs (mixL k gl m)∧KG gs w wr)) (fun _ iv _=>gs.length - (intOf iv).toNat)
  case atStart=>exact ⟨0,k,Nat.zero_le _,rfl,rfl,by simp [evN,Hid],by simpa [mixL] using za HG,kg_refl _ _⟩
  case round =>
    obtain ⟨m,kk,hm,rfl,rfl,hkk,hin⟩:=hrel
    by_cases hlt:m < gs.length
    · obtain ⟨g,hg⟩:∃ g,gs[m]? = some g:=⟨_,List.getElem?_eq_getElem hlt⟩
      obtain ⟨es,hes⟩:∃ es,gl[m]? = some es:=⟨_,List.getElem?_eq_getElem (by have:=za HGL; omega)⟩
      obtain ⟨gb,rfl,hgb,hc⟩:=(za hin).1.cells m g hg
      have hlt':(m:Int) < gs.length:=by omega
      have hown:=(za hin).1.each m g es hg (mix_at hes)
      have hbd:=za HBD m
      have hel:=za HE es (List.mem_of_getElem? hes)
      have hkb:kk ≤ 1000000:=by have:=za hkk; omega
      have hk0':0 < kk:=by have:=za hkk; omega
      have HOW:=hide hown
      have HGM:=hide hg
      have HES:=hide hes
      rw [Nat.zero_add] at hc
      clear hown hg hes
      obtain ⟨ag,cg,rfl⟩:∃ ag cg,g = .slice ag es.length cg:=by obtain ⟨ag,cg,h,_⟩:=za HOW; exact ⟨ag,cg,h⟩
      go_wp2_with fail
      refine (markE_own _ es kk wr (za HOW) (by omega) hk0' (by omega)).mono ?_
      rintro e w2 ⟨rfl,ho2,G,hgr,hG⟩
      have HO2:=hide ho2
      have HGR:=hide hgr
      have HGG:=hide hG
      clear ho2 hgr hG hc
      go_wp2_with fail
      go_roundw
      case rel =>
        have hnk:kk + 14 * es.length = k + 14 * evN (gl.take (m + 1)):=by rw [evN_take (za HES)]; have:=za hkk; omega
        refine ⟨m + 1,kk + 14 * es.length,by omega,by go_num,rfl,hnk,?_,?_⟩
        · have h1:=go_set (za hin).1 (za HGM) (za HGR) (fun b hb=>(za HGG b hb).1) (za HO2) (by rw [mix_len]; have:=za HGL; omega)
          rw [za hkk,mix_next (za HES)] at h1
          exact h1
        · exact kg_step (za hin).2 (za HGR) (fun b hb=>⟨_,List.mem_of_getElem? (za HGM),(za HGG b hb).1⟩)
      case measure=>simp [intOf]; omega
    · obtain rfl:m = gs.length:=by omega
      have HKK:Hid (kk = k + 14 * evN gl):=by
        have h1:=za hkk
        rw [List.take_of_length_le (by have:=za HGL; omega)] at h1
        exact h1
      have HGE:Hid (GO wr B a gs (mgL k gl)):=by
        have h1:=(za hin).1
        rw [mixL,List.take_of_length_le (by rw [zcp]; have:=za HGL; omega),List.drop_of_length_le (by have:=za HGL; omega),List.append_nil] at h1
        exact h1
      go_wp2_with fail
      go_ret
      exact ⟨by rw [← za HKK]; rfl,za HGE,(za hin).2⟩
theorem heldGs_any (a:Option Addr) (cap:Nat) (gs:List Value) (gl:List (List Ev)) (k:Nat) (w:World) (hl:gs.length = gl.length) (hc:∀ (i:Nat) (g:Value) (es:List Ev),gs[i]? = some g→gl[i]? = some es→∃ gb,a = some ⟨gb,0,none⟩∧gb < w.heap.size∧w.cell? ⟨gb,0 + i,none⟩ = some g∧RdR Ev.vs 14 w g (zaQ (k + 14 * evN (gl.take i)) es.length)) (hn:gl.length ≤ 200) (he:∀ es ∈ gl,es.length ≤ 100) (hk0:0 < k) (hk1:k ≤ 1000) :
    Calls Tryz.prog 50 #[.slice a gs.length cap,.int .i64 k] w fun e w'=>e = .returned (.int .i64 ((k + 14 * evN gl:Nat):Int))∧Below w.heap.size w w':=by
  have HC:=hide hc
  have HGL:=hide hl
  have hgn:gs.length ≤ 200:=by rw [hl]; exact hn
  have HBD:Hid (∀ i,evN (gl.take i) ≤ 20000):=fun i=>zbJ he hn i
  have HE:=hide he
  clear hc he hl
  go_enter Tryz.func50,Tryz.ntmps50
  go_wp2_with fail
  go_loopw [1,5] (fun kv iv wr=>∃ m kk:Nat,m ≤ gs.length∧iv = .int .i64 m∧kv = .int .i64 kk∧Hid (kk = k + 14 * evN (gl.take m))∧Hid (Below w.heap.size w wr)) (fun _ iv _=>gs.length - (intOf iv).toNat)
  case atStart=>exact ⟨0,k,Nat.zero_le _,rfl,rfl,by simp [evN,Hid],Below.refl _ _⟩
  case round =>
    obtain ⟨m,kk,hm,rfl,rfl,hkk,hin⟩:=hrel
    by_cases hlt:m < gs.length
    · obtain ⟨g,hg⟩:∃ g,gs[m]? = some g:=⟨_,List.getElem?_eq_getElem hlt⟩
      obtain ⟨es,hes⟩:∃ es,gl[m]? = some es:=⟨_,List.getElem?_eq_getElem (by have:=za HGL; omega)⟩
      obtain ⟨gb,rfl,hgb,hc,hrd⟩:=za HC m g es hg hes
      have hlt':(m:Int) < gs.length:=by omega
      have hbd:=za HBD m
      have hel:=za HE es (List.mem_of_getElem? hes)
      have hkb:kk ≤ 1000000:=by have:=za hkk; omega
      have hk0':0 < kk:=by have:=za hkk; omega
      have hc1:=((za hin).cell (p:=⟨gb,0 + m,none⟩) hgb).trans hc
      rw [Nat.zero_add] at hc1
      rw [← za hkk] at hrd
      have HRD:=hide (zi hrd (za hin) (Nat.le_refl _))
      have HES:=hide hes
      clear hrd hc hg hes
      obtain ⟨ag,cg,rfl⟩:∃ ag cg,g = .slice ag es.length cg:=by obtain ⟨ag,cg,h,_⟩:=za HRD; exact ⟨ag,cg,by rw [h,zaL]⟩
      have hneg:¬ (((kk + 14 * es.length:Nat):Int) < 0):=by omega
      go_wp2_with fail
      refine (heldEventS_any _ es.length kk wr (by omega) hk0' (by omega) (za HRD)).mono ?_
      rintro e w2 ⟨rfl,hb2⟩
      have HB2:=hide ((za hin).trans (hb2.mono (za hin).size))
      have HNK:Hid (kk + 14 * es.length = k + 14 * evN (gl.take (m + 1))):=by
        have:kk + 14 * es.length = k + 14 * evN (gl.take (m + 1)):=by rw [evN_take (za HES)]; have:=za hkk; omega
        exact this
      clear hb2 hc1
      generalize hnn:kk + 14 * es.length = nk at hneg HNK ⊢
      clear hnn
      go_wp2_with fail
      go_roundw
      case rel=>exact ⟨m + 1,nk,by omega,by go_num,rfl,za HNK,za HB2⟩
      case measure=>simp [intOf]; omega
    · obtain rfl:m = gs.length:=by omega
      have HKK:Hid (kk = k + 14 * evN gl):=by
        have h1:=za hkk
        rw [List.take_of_length_le (by have:=za HGL; omega)] at h1
        exact h1
      go_wp2_with fail
      go_ret
      exact ⟨by rw [← za HKK]; rfl,za hin⟩
end Go.Proofs.YtdfihaabhichdaaGreat
