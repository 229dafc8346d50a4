/-
  What RunScript answers, held against another answer, marked and looked at again: the laws' own helpers over groups of events, walked.
-/
import Derived.Test.YtfoabgghlnjjoaaGreatRj32
import Derived.Test.YtfoabgghlnjjoaaGreatRj33
import Derived.Test.YtfoabgghlnjjoaaGreatRj34
namespace Go.Proofs.YtfoabgghlnjjoaaGreat
open Go.RowKit
set_option linter.unusedVariables false

def mgL:Nat→List (List Ev)→List (List Ev)
  | _,[]=>[]
  | k,es :: r=>zaQ k es.length :: mgL (k + 14 * es.length) r
def evN:List (List Ev)→Nat
  | []=>0
  | es :: r=>es.length + evN r
theorem zcp:∀ (gl:List (List Ev)) (k:Nat),(mgL k gl).length = gl.length
  | [],_=>rfl
  | es :: r,k=>by simp [mgL,zcp r]
theorem evN_snoc (es:List Ev):∀ gl:List (List Ev),evN (gl ++ [es]) = evN gl + es.length
  | []=>by simp [evN]
  | a :: r=>by simp only [List.cons_append,evN,evN_snoc es r]; omega
theorem evN_take {gl:List (List Ev)} {i:Nat} {es:List Ev} (h:gl[i]? = some es):evN (gl.take (i + 1)) = evN (gl.take i) + es.length:=by
  rw [List.take_add_one,h]; exact evN_snoc es _
theorem mgL_get:∀ (gl:List (List Ev)) (k i:Nat) (es:List Ev),gl[i]? = some es→(mgL k gl)[i]? = some (zaQ (k + 14 * evN (gl.take i)) es.length)
  | [],_,i,es,h=>by simp at h
  | a :: r,k,0,es,h=>by
    simp at h; subst h; simp [mgL,evN]
  | a :: r,k,i + 1,es,h=>by
    have:=mgL_get r (k + 14 * a.length) i es (by simpa using h)
    simp only [mgL,List.getElem?_cons_succ,this,List.take_succ_cons,evN]
    congr 2
    omega
theorem evN_le {gl:List (List Ev)} {n:Nat} (h:∀ es ∈ gl,es.length ≤ n):evN gl ≤ n * gl.length:=by
  induction gl with
  | nil=>simp [evN]
  | cons a r ih =>
    have h1:=h a List.mem_cons_self
    have h2:=ih (fun es he=>h es (List.mem_cons_of_mem _ he))
    simp only [evN,List.length_cons,Nat.mul_add,Nat.mul_one]
    omega
theorem zbJ {gl:List (List Ev)} {n m:Nat} (h:∀ es ∈ gl,es.length ≤ n) (hm:gl.length ≤ m) (i:Nat):evN (gl.take i) ≤ n * m:=by
  have h1:=evN_le (gl:=gl.take i) (n:=n) (fun es he=>h es (List.mem_of_mem_take he))
  have h2:(gl.take i).length ≤ m:=Nat.le_trans (List.length_take_le' _ _) hm
  exact Nat.le_trans h1 (Nat.mul_le_mul_left _ h2)
structure GO (W:World) (B:Nat) (a:Option Addr) (gs:List Value) (gl:List (List Ev)):Prop where
  len:gs.length = gl.length
  cells:∀ (i:Nat) (g:Value),gs[i]? = some g→∃ gb,a = some ⟨gb,0,none⟩∧gb < W.heap.size∧W.cell? ⟨gb,0 + i,none⟩ = some g
  each:∀ (i:Nat) (g:Value) (es:List Ev),gs[i]? = some g→gl[i]? = some es→OwnR Ev.vs 14 B W g es
  apt:gs.Pairwise fun g g'=>∀ b b',g.ownBlock = some b→g'.ownBlock = some b'→b < b'
  out:∀ gb,a = some ⟨gb,0,none⟩→∀ g ∈ gs,g.ownBlock ≠ some gb
  lt:∀ g ∈ gs,∀ b,g.ownBlock = some b→B ≤ b∧b < W.heap.size
  lo:∀ gb,a = some ⟨gb,0,none⟩→B ≤ gb∧gb < W.heap.size
theorem go_of {W:World} {B:Nat} {gv:Value} {gl:List (List Ev)} (h:GRa W B gv gl) (hl:∀ es ∈ gl,es.length ≤ 1073741824):∃ a cap gs,gv = .slice a gs.length cap∧GO W B a gs gl∧GRow W B gv gs∧∀ g ∈ gs,∃ es,ERow W B g es:=by
  obtain ⟨gs,hrow,hlen,heach,hapt⟩:=h.ex
  have hea:∀ (i:Nat) (g:Value) (es:List Ev),gs[i]? = some g→gl[i]? = some es→OwnR Ev.vs 14 B W g es:=fun i g es hg hes=>zaG Ev.len (hl es (List.mem_of_getElem? hes)) (heach i g es hg hes)
  have hev:∀ g ∈ gs,∃ es,ERow W B g es:=fun x hx=>by
    obtain ⟨i,hi⟩:=List.mem_iff_getElem?.1 hx
    obtain ⟨es,hes⟩:∃ es,gl[i]? = some es:=⟨_,List.getElem?_eq_getElem (by rw [← hlen]; exact (List.getElem?_eq_some_iff.1 hi).1)⟩
    exact ⟨es,heach i x es hi hes⟩
  rcases hrow.2 with ⟨h1,h0⟩ | ⟨g,cap,cur,h1,hB,hg,h4,h5,h6,h7⟩
  · have hgs:gs = []:=List.length_eq_zero_iff.1 h0
    subst hgs
    exact ⟨none,0,[],h1,⟨hlen,by simp,hea,hapt,by simp,by simp,by simp⟩,hrow,hev⟩
  · refine ⟨_,cap,gs,h1,⟨hlen,fun i x hx=>⟨g,rfl,(Array.getElem?_eq_some_iff.1 hg).1,?_⟩,hea,hapt,fun gb hgb x hx e=>?_,fun x hx b hb=>?_,fun gb hgb=>?_⟩,hrow,hev⟩
    · rw [Nat.zero_add,cell_of_row W g i cur _ (0,0) hg]
      have hi:=(List.getElem?_eq_some_iff.1 hx).1
      have h8:(cur.toList.take (gs.length * 1))[i]? = gs[i]?:=by rw [h7]
      rw [List.getElem?_take,if_pos (by omega),hx] at h8
      simpa using h8
    · obtain ⟨i,hi⟩:=List.mem_iff_getElem?.1 hx
      obtain ⟨es,hes⟩:∃ es,gl[i]? = some es:=⟨_,List.getElem?_eq_getElem (by rw [← hlen]; exact (List.getElem?_eq_some_iff.1 hi).1)⟩
      rcases zz hrow (heach i x es hi hes) (by decide) with h8 | h8
      · rw [h1] at h8; simp [Value.ownBlock] at h8
      · rw [h1] at h8
        simp only [Option.some.injEq,Addr.mk.injEq,and_true] at hgb
        subst hgb
        exact h8 (by rw [e]; rfl)
    · obtain ⟨i,hi⟩:=List.mem_iff_getElem?.1 hx
      obtain ⟨es,hes⟩:∃ es,gl[i]? = some es:=⟨_,List.getElem?_eq_getElem (by rw [← hlen]; exact (List.getElem?_eq_some_iff.1 hi).1)⟩
      exact (heach i x es hi hes).lt b hb
    · simp only [Option.some.injEq,Addr.mk.injEq,and_true] at hgb
      subst hgb
      exact ⟨hB,(Array.getElem?_eq_some_iff.1 hg).1⟩
theorem go_below {C:Nat} {W W':World} {B:Nat} {a:Option Addr} {gs:List Value} {gl:List (List Ev)} (h:GO W B a gs gl) (hb:Below C W W') (hC:W.heap.size ≤ C):GO W' B a gs gl :=
  ⟨h.len,fun i g hg=>by
    obtain ⟨gb,h1,h2,h3⟩:=h.cells i g hg
    exact ⟨gb,h1,Nat.lt_of_lt_of_le h2 hb.size,(hb.cell (p:=⟨gb,0 + i,none⟩) (Nat.lt_of_lt_of_le h2 hC)).trans h3⟩,fun i g es hg hes=>zao (h.each i g es hg hes) hb hC,h.apt,h.out,fun g hg b e=>⟨(h.lt g hg b e).1,Nat.lt_of_lt_of_le (h.lt g hg b e).2 hb.size⟩,fun gb e=>⟨(h.lo gb e).1,Nat.lt_of_lt_of_le (h.lo gb e).2 hb.size⟩⟩
structure KG (gs:List Value) (w w':World):Prop where
  os:w'.os = w.os
  tape:w'.tape = w.tape
  output:w'.output = w.output
  size:w.heap.size ≤ w'.heap.size
  block:∀ k,k < w.heap.size→(∀ g ∈ gs,g.ownBlock ≠ some k)→w'.heap[k]? = w.heap[k]?
theorem kg_refl (gs:List Value) (w:World):KG gs w w:=⟨rfl,rfl,rfl,Nat.le_refl _,fun _ _ _=>rfl⟩
theorem kg_step {gs:List Value} {w w1 w2:World} {G:Option Nat} (h:KG gs w w1) (hg:w1.grownBy w2 G) (hG:∀ b,G = some b→∃ g ∈ gs,g.ownBlock = some b):KG gs w w2 :=
  ⟨hg.os.trans h.os,hg.tape.trans h.tape,hg.output.trans h.output,Nat.le_trans h.size hg.size,fun k hk hn=>(hg.block k (Nat.lt_of_lt_of_le hk h.size) (fun e=>by
    obtain ⟨g,h1,h2⟩:=hG k e.symm
    exact hn g h1 h2)).trans (h.block k hk hn)⟩
theorem go_set {W W':World} {B:Nat} {a:Option Addr} {gs:List Value} {gl:List (List Ev)} {m:Nat} {g:Value} {es:List Ev} {G:Option Nat} (h:GO W B a gs gl) (hg:gs[m]? = some g) (hgr:W.grownBy W' G) (hG:∀ b,G = some b→g.ownBlock = some b) (ho:OwnR Ev.vs 14 B W' g es) (hm:m < gl.length):GO W' B a gs (gl.set m es):=by
  refine ⟨by rw [List.length_set]; exact h.len,fun i x hx=>?_,fun i x xs hx hxs=>?_,h.apt,h.out,fun g hg b e=>⟨(h.lt g hg b e).1,Nat.lt_of_lt_of_le (h.lt g hg b e).2 hgr.size⟩,fun gb e=>⟨(h.lo gb e).1,Nat.lt_of_lt_of_le (h.lo gb e).2 hgr.size⟩⟩
  · obtain ⟨gb,h1,h2,h3⟩:=h.cells i x hx
    refine ⟨gb,h1,Nat.lt_of_lt_of_le h2 hgr.size,(World.cell?_of_block (a:=⟨gb,0 + i,none⟩) (hgr.block gb h2 (fun e=>?_))).trans h3⟩
    exact h.out gb h1 g (List.mem_of_getElem? hg) (hG gb e.symm)
  · by_cases him:m = i
    · subst him
      rw [hg] at hx
      obtain rfl:=Option.some.inj hx
      rw [List.getElem?_set_self hm] at hxs
      obtain rfl:=Option.some.inj hxs
      exact ho
    · rw [List.getElem?_set_ne him] at hxs
      refine ownR_grown (h.each i x xs hx hxs) hgr (fun hne e=>?_)
      obtain ⟨b,hb,_,_⟩:=ownR_lt (h.each i x xs hx hxs) hne
      rw [hb] at e
      have hgb:=hG b e.symm
      rcases Nat.lt_or_gt_of_ne him with hlt | hlt
      · have:=(List.pairwise_iff_getElem.1 h.apt) m i (List.getElem?_eq_some_iff.1 hg).1 (List.getElem?_eq_some_iff.1 hx).1 hlt
        rw [(List.getElem?_eq_some_iff.1 hg).2,(List.getElem?_eq_some_iff.1 hx).2] at this
        have:=this b b hgb hb
        omega
      · have:=(List.pairwise_iff_getElem.1 h.apt) i m (List.getElem?_eq_some_iff.1 hx).1 (List.getElem?_eq_some_iff.1 hg).1 hlt
        rw [(List.getElem?_eq_some_iff.1 hg).2,(List.getElem?_eq_some_iff.1 hx).2] at this
        have:=this b b hb hgb
        omega
def mixL (k:Nat) (gl:List (List Ev)) (m:Nat):List (List Ev):=(mgL k gl).take m ++ gl.drop m
theorem mix_len (k:Nat) (gl:List (List Ev)) (m:Nat):(mixL k gl m).length = gl.length:=by
  simp [mixL,zcp]; omega
theorem mix_at {k m:Nat} {gl:List (List Ev)} {es:List Ev} (h:gl[m]? = some es):(mixL k gl m)[m]? = some es:=by
  have hm:=(List.getElem?_eq_some_iff.1 h).1
  have h1:((mgL k gl).take m).length = m:=by simp [zcp]; omega
  unfold mixL
  rw [List.getElem?_append_right (by omega),h1,Nat.sub_self,List.getElem?_drop,Nat.add_zero,h]
theorem mix_next {k m:Nat} {gl:List (List Ev)} {es:List Ev} (h:gl[m]? = some es):(mixL k gl m).set m (zaQ (k + 14 * evN (gl.take m)) es.length) = mixL k gl (m + 1):=by
  have hm:=(List.getElem?_eq_some_iff.1 h).1
  have h1:((mgL k gl).take m).length = m:=by simp [zcp]; omega
  unfold mixL
  rw [List.set_append_right _ _ (by omega),h1,Nat.sub_self,List.take_add_one,mgL_get gl k m es h]
  rw [List.drop_eq_getElem_cons hm,List.set_cons_zero,List.append_assoc]
  rfl
set_option maxRecDepth 100000 in
set_option maxHeartbeats 800000 in
theorem markGs_any {B:Nat} (a:Option Addr) (cap:Nat) (gs:List Value) (gl:List (List Ev)) (k:Nat) (w:World) (h:GO w B a gs gl) (hn:gl.length ≤ 200) (he:∀ es ∈ gl,es.length ≤ 100) (hk0:0 < k) (hk1:k ≤ 1000) :
    Calls Tryz.prog 49 #[.slice a gs.length cap,.int .i64 k] w fun e w'=>e = .returned (.int .i64 ((k + 14 * evN gl:Nat):Int))∧GO w' B a gs (mgL k gl)∧KG gs w w':=by
  have HG:=hide h
  have HGL:=hide h.len
  have hgn:gs.length ≤ 200:=by rw [h.len]; exact hn
  have HBD:Hid (∀ i,evN (gl.take i) ≤ 20000):=fun i=>zbJ he hn i
  have HE:=hide he
  clear h he
  go_enter Tryz.func49,Tryz.ntmps49
  go_wp2_with fail
  go_loopw [1,5] (fun kv iv wr=>∃ m kk:Nat,m ≤ gs.length∧iv = .int .i64 m∧kv = .int .i64 kk∧Hid (kk = k + 14 * evN (gl.take m))∧Hid (GO wr B a gs (mixL k gl m)∧KG gs w wr)) (fun _ iv _=>gs.length - (intOf iv).toNat)
  case atStart=>exact ⟨0,k,Nat.zero_le _,rfl,rfl,by simp [evN,Hid],by simpa [mixL] using za HG,kg_refl _ _⟩
  case round =>
    obtain ⟨m,kk,hm,rfl,rfl,hkk,hin⟩:=hrel
    by_cases hlt:m < gs.length
    · obtain ⟨g,hg⟩:∃ g,gs[m]? = some g:=⟨_,List.getElem?_eq_getElem hlt⟩
      obtain ⟨es,hes⟩:∃ es,gl[m]? = some es:=⟨_,List.getElem?_eq_getElem (by have:=za HGL; omega)⟩
      obtain ⟨gb,rfl,hgb,hc⟩:=(za hin).1.cells m g hg
      have hlt':(m:Int) < gs.length:=by omega
      have hown:=(za hin).1.each m g es hg (mix_at hes)
      have hbd:=za HBD m
      have hel:=za HE es (List.mem_of_getElem? hes)
      have hkb:kk ≤ 1000000:=by have:=za hkk; omega
      have hk0':0 < kk:=by have:=za hkk; omega
      have HOW:=hide hown
      have HGM:=hide hg
      have HES:=hide hes
      rw [Nat.zero_add] at hc
      clear hown hg hes
      obtain ⟨ag,cg,rfl⟩:∃ ag cg,g = .slice ag es.length cg:=by obtain ⟨ag,cg,h,_⟩:=za HOW; exact ⟨ag,cg,h⟩
      go_wp2_with fail
      refine (markE_own _ es kk wr (za HOW) (by omega) hk0' (by omega)).mono ?_
      rintro e w2 ⟨rfl,ho2,G,hgr,hG⟩
      have HO2:=hide ho2
      have HGR:=hide hgr
      have HGG:=hide hG
      clear ho2 hgr hG hc
      go_wp2_with fail
      go_roundw
      case rel =>
        have hnk:kk + 14 * es.length = k + 14 * evN (gl.take (m + 1)):=by rw [evN_take (za HES)]; have:=za hkk; omega
        refine ⟨m + 1,kk + 14 * es.length,by omega,by go_num,rfl,hnk,?_,?_⟩
        · have h1:=go_set (za hin).1 (za HGM) (za HGR) (fun b hb=>(za HGG b hb).1) (za HO2) (by rw [mix_len]; have:=za HGL; omega)
          rw [za hkk,mix_next (za HES)] at h1
          exact h1
        · exact kg_step (za hin).2 (za HGR) (fun b hb=>⟨_,List.mem_of_getElem? (za HGM),(za HGG b hb).1⟩)
      case measure=>simp [intOf]; omega
    · obtain rfl:m = gs.length:=by omega
      have HKK:Hid (kk = k + 14 * evN gl):=by
        have h1:=za hkk
        rw [List.take_of_length_le (by have:=za HGL; omega)] at h1
        exact h1
      have HGE:Hid (GO wr B a gs (mgL k gl)):=by
        have h1:=(za hin).1
        rw [mixL,List.take_of_length_le (by rw [zcp]; have:=za HGL; omega),List.drop_of_length_le (by have:=za HGL; omega),List.append_nil] at h1
        exact h1
      go_wp2_with fail
      go_ret
      exact ⟨by rw [← za HKK]; rfl,za HGE,(za hin).2⟩
theorem heldGs_any (a:Option Addr) (cap:Nat) (gs:List Value) (gl:List (List Ev)) (k:Nat) (w:World) (hl:gs.length = gl.length) (hc:∀ (i:Nat) (g:Value) (es:List Ev),gs[i]? = some g→gl[i]? = some es→∃ gb,a = some ⟨gb,0,none⟩∧gb < w.heap.size∧w.cell? ⟨gb,0 + i,none⟩ = some g∧RdR Ev.vs 14 w g (zaQ (k + 14 * evN (gl.take i)) es.length)) (hn:gl.length ≤ 200) (he:∀ es ∈ gl,es.length ≤ 100) (hk0:0 < k) (hk1:k ≤ 1000) :
    Calls Tryz.prog 50 #[.slice a gs.length cap,.int .i64 k] w fun e w'=>e = .returned (.int .i64 ((k + 14 * evN gl:Nat):Int))∧Below w.heap.size w w':=by
  have HC:=hide hc
  have HGL:=hide hl
  have hgn:gs.length ≤ 200:=by rw [hl]; exact hn
  have HBD:Hid (∀ i,evN (gl.take i) ≤ 20000):=fun i=>zbJ he hn i
  have HE:=hide he
  clear hc he hl
  go_enter Tryz.func50,Tryz.ntmps50
  go_wp2_with fail
  go_loopw [1,5] (fun kv iv wr=>∃ m kk:Nat,m ≤ gs.length∧iv = .int .i64 m∧kv = .int .i64 kk∧Hid (kk = k + 14 * evN (gl.take m))∧Hid (Below w.heap.size w wr)) (fun _ iv _=>gs.length - (intOf iv).toNat)
  case atStart=>exact ⟨0,k,Nat.zero_le _,rfl,rfl,by simp [evN,Hid],Below.refl _ _⟩
  case round =>
    obtain ⟨m,kk,hm,rfl,rfl,hkk,hin⟩:=hrel
    by_cases hlt:m < gs.length
    · obtain ⟨g,hg⟩:∃ g,gs[m]? = some g:=⟨_,List.getElem?_eq_getElem hlt⟩
      obtain ⟨es,hes⟩:∃ es,gl[m]? = some es:=⟨_,List.getElem?_eq_getElem (by have:=za HGL; omega)⟩
      obtain ⟨gb,rfl,hgb,hc,hrd⟩:=za HC m g es hg hes
      have hlt':(m:Int) < gs.length:=by omega
      have hbd:=za HBD m
      have hel:=za HE es (List.mem_of_getElem? hes)
      have hkb:kk ≤ 1000000:=by have:=za hkk; omega
      have hk0':0 < kk:=by have:=za hkk; omega
      have hc1:=((za hin).cell (p:=⟨gb,0 + m,none⟩) hgb).trans hc
      rw [Nat.zero_add] at hc1
      rw [← za hkk] at hrd
      have HRD:=hide (zi hrd (za hin) (Nat.le_refl _))
      have HES:=hide hes
      clear hrd hc hg hes
      obtain ⟨ag,cg,rfl⟩:∃ ag cg,g = .slice ag es.length cg:=by obtain ⟨ag,cg,h,_⟩:=za HRD; exact ⟨ag,cg,by rw [h,zaL]⟩
      have hneg:¬ (((kk + 14 * es.length:Nat):Int) < 0):=by omega
      go_wp2_with fail
      refine (heldEventS_any _ es.length kk wr (by omega) hk0' (by omega) (za HRD)).mono ?_
      rintro e w2 ⟨rfl,hb2⟩
      have HB2:=hide ((za hin).trans (hb2.mono (za hin).size))
      have HNK:Hid (kk + 14 * es.length = k + 14 * evN (gl.take (m + 1))):=by
        have:kk + 14 * es.length = k + 14 * evN (gl.take (m + 1)):=by rw [evN_take (za HES)]; have:=za hkk; omega
        exact this
      clear hb2 hc1
      generalize hnn:kk + 14 * es.length = nk at hneg HNK ⊢
      clear hnn
      go_wp2_with fail
      go_roundw
      case rel=>exact ⟨m + 1,nk,by omega,by go_num,rfl,za HNK,za HB2⟩
      case measure=>simp [intOf]; omega
    · obtain rfl:m = gs.length:=by omega
      have HKK:Hid (kk = k + 14 * evN gl):=by
        have h1:=za hkk
        rw [List.take_of_length_le (by have:=za HGL; omega)] at h1
        exact h1
      go_wp2_with fail
      go_ret
      exact ⟨by rw [← za HKK]; rfl,za hin⟩
end Go.Proofs.YtfoabgghlnjjoaaGreat
namespace Go.Proofs.YtfoabgghlnjjoaaGreat
open Go.RowKit
set_option linter.unusedVariables false

def livS (l:List Od):Int:=l.foldl (fun n o=>wrap64 (n + o.left)) 0
theorem liv_step (l:List Od) {k:Nat} {o:Od} (h:l[k]? = some o):livS (l.take (k + 1)) = wrap64 (livS (l.take k) + o.left):=by
 unfold livS
 rw [List.take_add_one,h,List.foldl_append]; rfl
set_option maxRecDepth 100000 in
set_option maxHeartbeats 1600000 in
theorem l04Live_any (next:Int) (v:Value) (l:List Od) (w:World) (hr:RdR Od.vs 6 w v l) :
  Calls Tryz.prog 126 #[.agg #[.int .i64 next,v]] w fun r w'=>r = .returned (.tuple #[.int .i64 l.length,.int .i64 (livS l)])∧Below w.heap.size w w':=by
 obtain ⟨a,cap,rfl,hlen,hc⟩:=hr
 have hcell:∀ (k:Nat) (c:Od),l[k]? = some c→∃ b off,a = some ⟨b,off,none⟩∧b < w.heap.size∧w.rangeAt b (off + k * 6) c.vs:=by
  intro k c hk
  obtain ⟨b,off,h1,h2,h3⟩:=hc (by intro h; rw [h] at hk; simp at hk)
  exact ⟨b,off,h1,h2,h3 k c hk⟩
 have HC:=hide hcell
 clear hcell hc
 have b1:Below w.heap.size w (w.alloc (Obj.cells #[.int .i64 next,.slice a l.length cap] 32)):=(Below.refl _ _).alloc (Nat.le_refl _) _
 have HX:Hid (_∧_∧_):=⟨zg w [.int .i64 next,.slice a l.length cap] 32,b1,zf w (Obj.cells #[.int .i64 next,.slice a l.length cap] 32)⟩
 clear b1
 go_enter Tryz.func126,Tryz.ntmps126
 refine wp_seq_k fun K hK=>?_
 have HK1:=hide hK
 clear hK
 go_wp2_with fail
 refine za HK1 _ _ ?_
 clear HK1
 change Hid (World.rangeAt (w.alloc (Obj.cells #[.int .i64 next,.slice a l.length cap] 32)) w.heap.size 0 [.int .i64 next,.slice a l.length cap]∧Below w.heap.size w (w.alloc (Obj.cells #[.int .i64 next,.slice a l.length cap] 32))∧(w.alloc (Obj.cells #[.int .i64 next,.slice a l.length cap] 32)).heap.size = w.heap.size + 1) at HX
 generalize (w.alloc (Obj.cells #[.int .i64 next,.slice a l.length cap] 32)) = X at HX ⊢
 have c1:X.cell? ⟨w.heap.size,1,none⟩ = some (.slice a l.length cap):=(za HX).1 1 _ rfl
 go_wp2_with fail
 go_loopw [4,5] (fun nv iv wr=>wr = X∧∃ (k:Nat),k ≤ l.length∧iv = .int .i64 k∧∃ n:Int,nv = .int .i64 n∧Hid (n = livS (l.take k))) (fun _ iv _=>l.length - (intOf iv).toNat)
 case atStart=>exact ⟨rfl,0,Nat.zero_le _,rfl,0,rfl,rfl⟩
 case round =>
  obtain ⟨rfl,k,hk,rfl,n,rfl,hn⟩:=hrel
  by_cases hlt:k < l.length
  ·obtain ⟨e,hke⟩:∃ e,l[k]? = some e:=⟨_,List.getElem?_eq_getElem hlt⟩
   obtain ⟨b,off,rfl,hb,hcl⟩:=za HC k e hke
   have HNX:=hide (liv_step l hke)
   have hlt':(k:Int) < l.length:=by omega
   obtain ⟨g0,g1,g2,g3,g4,g5⟩:=zC (zb hcl (za HX).2.1 hb)
   clear hke hcl hb
   go_wp2_with fail
   go_roundw
   case rel=>exact ⟨trivial,k + 1,by omega,by go_num,_,rfl,hide (by rw [za HNX,za hn])⟩
   case measure=>simp [intOf]; omega
  ·have hlt':¬ (k:Int) < l.length:=by omega
   rw [List.take_of_length_le (by omega)] at hn
   have HB:=hide (za HX).2.1
   clear HX
   go_wp2_with fail
   try simp only [Exit.inBlock,Exit.then]
   refine bodyPost_ret (by simp [results,Tryz.results126,go_sem]; try rfl) rfl ?_
   exact ⟨by rw [za hn],za HB⟩
end Go.Proofs.YtfoabgghlnjjoaaGreat
namespace Go.Proofs.YtfoabgghlnjjoaaGreat
open Go.RowKit
set_option linter.unusedVariables false

def cntM (t:Tot) (e:Ev):Tot :=
 if e.kind = 1 then { t with ac:=wrap64 (t.ac + 1) } else if e.kind = 2 then { t with rf:=wrap64 (t.rf + 1) }
 else if e.kind = 3 then { t with tr:=wrap64 (t.tr + 1),vo:=wrap64 (t.vo + e.qty),no:=wrap64 (t.no + wrap64 (e.qty * e.price)),le:=wrap64 (t.le - e.qty) }
 else if e.kind = 4 then { t with li:=wrap64 (t.li + 1),le:=wrap64 (t.le + e.qty) } else t
set_option maxRecDepth 100000 in
set_option maxHeartbeats 3200000 in
theorem l04Count_any (t:Tot) (e:Ev) (w:World) :
  Calls Tryz.prog 125 #[.agg #[.int .i64 t.gr,.int .i64 t.ac,.int .i64 t.rf,.int .i64 t.tr,.int .i64 t.vo,.int .i64 t.no,.int .i64 t.li,.int .i64 t.le],.agg #[.int .i64 e.kind,.int .i64 e.cmd.k,.int .i64 e.cmd.s,.int .i64 e.cmd.t,.int .i64 e.cmd.l,.int .i64 e.cmd.q,.int .i64 e.cmd.i,.float .f64 e.cmd.p,.string e.cmd.g,.int .i64 e.id,.int .i64 e.other,.int .i64 e.qty,.int .i64 e.price,.int .i64 e.reason]] w fun r w'=>r = .returned (.agg #[.int .i64 (cntM t e).gr,.int .i64 (cntM t e).ac,.int .i64 (cntM t e).rf,.int .i64 (cntM t e).tr,.int .i64 (cntM t e).vo,.int .i64 (cntM t e).no,.int .i64 (cntM t e).li,.int .i64 (cntM t e).le])∧Below w.heap.size w w':=by
 have HM:Hid (cntM t e = if e.kind = 1 then { t with ac:=wrap64 (t.ac + 1) } else if e.kind = 2 then { t with rf:=wrap64 (t.rf + 1) }
  else if e.kind = 3 then { t with tr:=wrap64 (t.tr + 1),vo:=wrap64 (t.vo + e.qty),no:=wrap64 (t.no + wrap64 (e.qty * e.price)),le:=wrap64 (t.le - e.qty) }
  else if e.kind = 4 then { t with li:=wrap64 (t.li + 1),le:=wrap64 (t.le + e.qty) } else t):=rfl
 generalize cntM t e = M at HM ⊢
 obtain ⟨tgr,tac,trf,ttr,tvo,tno,tli,tle⟩:=t
 simp only at HM ⊢
 have hsf:=sfl
 have hs1:(w.alloc (Obj.cells #[.int .i64 tgr,.int .i64 tac,.int .i64 trf,.int .i64 ttr,.int .i64 tvo,.int .i64 tno,.int .i64 tli,.int .i64 tle] 48)).heap.size = w.heap.size + 1:=zf _ _
 have hs2:((w.alloc (Obj.cells #[.int .i64 tgr,.int .i64 tac,.int .i64 trf,.int .i64 ttr,.int .i64 tvo,.int .i64 tno,.int .i64 tli,.int .i64 tle] 48)).alloc (Obj.cells #[.int .i64 e.kind,.int .i64 e.cmd.k,.int .i64 e.cmd.s,.int .i64 e.cmd.t,.int .i64 e.cmd.l,.int .i64 e.cmd.q,.int .i64 e.cmd.i,.float .f64 e.cmd.p,.string e.cmd.g,.int .i64 e.id,.int .i64 e.other,.int .i64 e.qty,.int .i64 e.price,.int .i64 e.reason] 80)).heap.size = w.heap.size + 1 + 1:=by rw [zf,hs1]
 have hs3:(((w.alloc (Obj.cells #[.int .i64 tgr,.int .i64 tac,.int .i64 trf,.int .i64 ttr,.int .i64 tvo,.int .i64 tno,.int .i64 tli,.int .i64 tle] 48)).alloc (Obj.cells #[.int .i64 e.kind,.int .i64 e.cmd.k,.int .i64 e.cmd.s,.int .i64 e.cmd.t,.int .i64 e.cmd.l,.int .i64 e.cmd.q,.int .i64 e.cmd.i,.float .f64 e.cmd.p,.string e.cmd.g,.int .i64 e.id,.int .i64 e.other,.int .i64 e.qty,.int .i64 e.price,.int .i64 e.reason] 80)).alloc (Obj.cells #[.int .i64 0,.int .i64 0,.int .i64 0,.int .i64 0,.int .i64 0,.int .i64 0,.int .i64 0,.int .i64 0] 48)).heap.size = w.heap.size + 1 + 1 + 1:=by rw [zf,hs2]
 have r1:=zg w [.int .i64 tgr,.int .i64 tac,.int .i64 trf,.int .i64 ttr,.int .i64 tvo,.int .i64 tno,.int .i64 tli,.int .i64 tle] 48
 have t1:=zw w [.int .i64 tgr,.int .i64 tac,.int .i64 trf,.int .i64 ttr,.int .i64 tvo,.int .i64 tno,.int .i64 tli,.int .i64 tle] 48
 have r2:=zg (w.alloc (Obj.cells #[.int .i64 tgr,.int .i64 tac,.int .i64 trf,.int .i64 ttr,.int .i64 tvo,.int .i64 tno,.int .i64 tli,.int .i64 tle] 48)) [.int .i64 e.kind,.int .i64 e.cmd.k,.int .i64 e.cmd.s,.int .i64 e.cmd.t,.int .i64 e.cmd.l,.int .i64 e.cmd.q,.int .i64 e.cmd.i,.float .f64 e.cmd.p,.string e.cmd.g,.int .i64 e.id,.int .i64 e.other,.int .i64 e.qty,.int .i64 e.price,.int .i64 e.reason] 80
 have t3:=zw ((w.alloc (Obj.cells #[.int .i64 tgr,.int .i64 tac,.int .i64 trf,.int .i64 ttr,.int .i64 tvo,.int .i64 tno,.int .i64 tli,.int .i64 tle] 48)).alloc (Obj.cells #[.int .i64 e.kind,.int .i64 e.cmd.k,.int .i64 e.cmd.s,.int .i64 e.cmd.t,.int .i64 e.cmd.l,.int .i64 e.cmd.q,.int .i64 e.cmd.i,.float .f64 e.cmd.p,.string e.cmd.g,.int .i64 e.id,.int .i64 e.other,.int .i64 e.qty,.int .i64 e.price,.int .i64 e.reason] 80)) [.int .i64 0,.int .i64 0,.int .i64 0,.int .i64 0,.int .i64 0,.int .i64 0,.int .i64 0,.int .i64 0] 48
 rw [hs2] at t3
 rw [hs1] at r2
 have b1:Below w.heap.size w (w.alloc (Obj.cells #[.int .i64 tgr,.int .i64 tac,.int .i64 trf,.int .i64 ttr,.int .i64 tvo,.int .i64 tno,.int .i64 tli,.int .i64 tle] 48)):=(Below.refl _ _).alloc (Nat.le_refl _) _
 have b2:Below (w.heap.size + 1) (w.alloc (Obj.cells #[.int .i64 tgr,.int .i64 tac,.int .i64 trf,.int .i64 ttr,.int .i64 tvo,.int .i64 tno,.int .i64 tli,.int .i64 tle] 48)) ((w.alloc (Obj.cells #[.int .i64 tgr,.int .i64 tac,.int .i64 trf,.int .i64 ttr,.int .i64 tvo,.int .i64 tno,.int .i64 tli,.int .i64 tle] 48)).alloc (Obj.cells #[.int .i64 e.kind,.int .i64 e.cmd.k,.int .i64 e.cmd.s,.int .i64 e.cmd.t,.int .i64 e.cmd.l,.int .i64 e.cmd.q,.int .i64 e.cmd.i,.float .f64 e.cmd.p,.string e.cmd.g,.int .i64 e.id,.int .i64 e.other,.int .i64 e.qty,.int .i64 e.price,.int .i64 e.reason] 80)):=(Below.refl _ _).alloc (by omega) _
 have b3:Below (w.heap.size + 1 + 1) ((w.alloc (Obj.cells #[.int .i64 tgr,.int .i64 tac,.int .i64 trf,.int .i64 ttr,.int .i64 tvo,.int .i64 tno,.int .i64 tli,.int .i64 tle] 48)).alloc (Obj.cells #[.int .i64 e.kind,.int .i64 e.cmd.k,.int .i64 e.cmd.s,.int .i64 e.cmd.t,.int .i64 e.cmd.l,.int .i64 e.cmd.q,.int .i64 e.cmd.i,.float .f64 e.cmd.p,.string e.cmd.g,.int .i64 e.id,.int .i64 e.other,.int .i64 e.qty,.int .i64 e.price,.int .i64 e.reason] 80)) (((w.alloc (Obj.cells #[.int .i64 tgr,.int .i64 tac,.int .i64 trf,.int .i64 ttr,.int .i64 tvo,.int .i64 tno,.int .i64 tli,.int .i64 tle] 48)).alloc (Obj.cells #[.int .i64 e.kind,.int .i64 e.cmd.k,.int .i64 e.cmd.s,.int .i64 e.cmd.t,.int .i64 e.cmd.l,.int .i64 e.cmd.q,.int .i64 e.cmd.i,.float .f64 e.cmd.p,.string e.cmd.g,.int .i64 e.id,.int .i64 e.other,.int .i64 e.qty,.int .i64 e.price,.int .i64 e.reason] 80)).alloc (Obj.cells #[.int .i64 0,.int .i64 0,.int .i64 0,.int .i64 0,.int .i64 0,.int .i64 0,.int .i64 0,.int .i64 0] 48)):=(Below.refl _ _).alloc (by omega) _
 have HX:Hid (_∧_∧_∧_∧_):=⟨zb (zb r1 b2 (by omega)) b3 (by omega),zd (zd t1 b2 (by omega)) b3 (by omega),t3,(b1.trans (b2.mono (by omega))).trans (b3.mono (by omega)),Nat.le_of_eq hs3.symm⟩
 have HEV:=hide (zb r2 b3 (by omega))
 clear hs1 hs2 hs3 r1 r2 t1 t3 b1 b2 b3
 go_enter Tryz.func125,Tryz.ntmps125
 refine wp_seq_k fun K hK=>?_
 have HK1:=hide hK
 clear hK
 go_wp2_with fail
 refine za HK1 _ _ ?_
 clear HK1
 generalize (((w.alloc (Obj.cells #[.int .i64 tgr,.int .i64 tac,.int .i64 trf,.int .i64 ttr,.int .i64 tvo,.int .i64 tno,.int .i64 tli,.int .i64 tle] 48)).alloc (Obj.cells #[.int .i64 e.kind,.int .i64 e.cmd.k,.int .i64 e.cmd.s,.int .i64 e.cmd.t,.int .i64 e.cmd.l,.int .i64 e.cmd.q,.int .i64 e.cmd.i,.float .f64 e.cmd.p,.string e.cmd.g,.int .i64 e.id,.int .i64 e.other,.int .i64 e.qty,.int .i64 e.price,.int .i64 e.reason] 80)).alloc (Obj.cells #[.int .i64 0,.int .i64 0,.int .i64 0,.int .i64 0,.int .i64 0,.int .i64 0,.int .i64 0,.int .i64 0] 48)) = X at HX HEV ⊢
 have HX:Hid (X.rangeAt w.heap.size 0 [.int .i64 tgr,.int .i64 tac,.int .i64 trf,.int .i64 ttr,.int .i64 tvo,.int .i64 tno,.int .i64 tli,.int .i64 tle]∧X.there w.heap.size 0 8∧X.there (w.heap.size + 1 + 1) 0 8∧Below w.heap.size w X∧w.heap.size + 1 + 1 + 1 ≤ X.heap.size):=za HX
 obtain ⟨g0,g1,g2,g3,g4,g5,g6,g7,g8,g9,g10,g11,g12,g13⟩:=zav (za HEV)
 clear g1 g2 g3 g4 g5 g6 g7 g8 g9 g10 g13 HEV
 simp only [Nat.zero_add] at g11 g12
 have d0:X.cell? ⟨w.heap.size,0,none⟩ = some (.int .i64 tgr):=(za HX).1 0 _ rfl
 have p0:X.frozen? ⟨w.heap.size,0,none⟩ = false:=by have:=((za HX).2.1 0 (by omega)).2; rwa [Nat.zero_add] at this
 have d1:X.cell? ⟨w.heap.size,1,none⟩ = some (.int .i64 tac):=(za HX).1 1 _ rfl
 have p1:X.frozen? ⟨w.heap.size,1,none⟩ = false:=by have:=((za HX).2.1 1 (by omega)).2; rwa [Nat.zero_add] at this
 have d2:X.cell? ⟨w.heap.size,2,none⟩ = some (.int .i64 trf):=(za HX).1 2 _ rfl
 have p2:X.frozen? ⟨w.heap.size,2,none⟩ = false:=by have:=((za HX).2.1 2 (by omega)).2; rwa [Nat.zero_add] at this
 have d3:X.cell? ⟨w.heap.size,3,none⟩ = some (.int .i64 ttr):=(za HX).1 3 _ rfl
 have p3:X.frozen? ⟨w.heap.size,3,none⟩ = false:=by have:=((za HX).2.1 3 (by omega)).2; rwa [Nat.zero_add] at this
 have d4:X.cell? ⟨w.heap.size,4,none⟩ = some (.int .i64 tvo):=(za HX).1 4 _ rfl
 have p4:X.frozen? ⟨w.heap.size,4,none⟩ = false:=by have:=((za HX).2.1 4 (by omega)).2; rwa [Nat.zero_add] at this
 have d5:X.cell? ⟨w.heap.size,5,none⟩ = some (.int .i64 tno):=(za HX).1 5 _ rfl
 have p5:X.frozen? ⟨w.heap.size,5,none⟩ = false:=by have:=((za HX).2.1 5 (by omega)).2; rwa [Nat.zero_add] at this
 have d6:X.cell? ⟨w.heap.size,6,none⟩ = some (.int .i64 tli):=(za HX).1 6 _ rfl
 have p6:X.frozen? ⟨w.heap.size,6,none⟩ = false:=by have:=((za HX).2.1 6 (by omega)).2; rwa [Nat.zero_add] at this
 have d7:X.cell? ⟨w.heap.size,7,none⟩ = some (.int .i64 tle):=(za HX).1 7 _ rfl
 have p7:X.frozen? ⟨w.heap.size,7,none⟩ = false:=by have:=((za HX).2.1 7 (by omega)).2; rwa [Nat.zero_add] at this
 refine wp_seq_k fun K hK=>?_
 have HK1:=hide hK
 clear hK
 have HT:Hid (∀ (V:World) (T:Tot) (u5 u6 u7 u8 u9 u10 u11 u12 u13 u14 u15 u16 u17 u18 u19 u20 u21 u22 u23 u24 u25 u26 u27 u28 u29 u30 u31 u32 u33 u34 u35 u36 u37 u38 u39 u40 u41 u42 u43 u44 u45 u46 u47 u48 u49 u50 u51 u52 u53 u54 u55 u56 u57:Value),M = T→(V.rangeAt w.heap.size 0 T.vs∧V.there w.heap.size 0 8∧V.there (w.heap.size + 1 + 1) 0 8∧Below w.heap.size w V∧w.heap.size + 1 + 1 + 1 ≤ V.heap.size)→K { tmps:=#[.agg #[.int .i64 tgr,.int .i64 tac,.int .i64 trf,.int .i64 ttr,.int .i64 tvo,.int .i64 tno,.int .i64 tli,.int .i64 tle],.agg #[.int .i64 e.kind,.int .i64 e.cmd.k,.int .i64 e.cmd.s,.int .i64 e.cmd.t,.int .i64 e.cmd.l,.int .i64 e.cmd.q,.int .i64 e.cmd.i,.float .f64 e.cmd.p,.string e.cmd.g,.int .i64 e.id,.int .i64 e.other,.int .i64 e.qty,.int .i64 e.price,.int .i64 e.reason],.pointer (some ⟨w.heap.size,0,none⟩),.pointer (some ⟨w.heap.size + 1,0,none⟩),.pointer (some ⟨w.heap.size + 1 + 1,0,none⟩),u5,u6,u7,u8,u9,u10,u11,u12,u13,u14,u15,u16,u17,u18,u19,u20,u21,u22,u23,u24,u25,u26,u27,u28,u29,u30,u31,u32,u33,u34,u35,u36,u37,u38,u39,u40,u41,u42,u43,u44,u45,u46,u47,u48,u49,u50,u51,u52,u53,u54,u55,u56,u57,undef],defers:=[] } V):=by
  intro V T u5 u6 u7 u8 u9 u10 u11 u12 u13 u14 u15 u16 u17 u18 u19 u20 u21 u22 u23 u24 u25 u26 u27 u28 u29 u30 u31 u32 u33 u34 u35 u36 u37 u38 u39 u40 u41 u42 u43 u44 u45 u46 u47 u48 u49 u50 u51 u52 u53 u54 u55 u56 u57 hMT hin
  have HY:=hide hin
  have HTT:=hide hMT
  clear hin hMT HM HX g0 g11 g12 d0 p0 d1 p1 d2 p2 d3 p3 d4 p4 d5 p5 d6 p6 d7 p7
  obtain ⟨agr,aac,arf,atr,avo,ano,ali,ale⟩:=T
  have c0:V.cell? ⟨w.heap.size,0,none⟩ = some (.int .i64 agr):=(za HY).1 0 _ rfl
  obtain ⟨y0,z0,q0⟩:=zc (za HY).2.2.1 (j:=0) (by omega)
  have c1:V.cell? ⟨w.heap.size,1,none⟩ = some (.int .i64 aac):=(za HY).1 1 _ rfl
  obtain ⟨y1,z1,q1⟩:=zc (za HY).2.2.1 (j:=1) (by omega)
  have c2:V.cell? ⟨w.heap.size,2,none⟩ = some (.int .i64 arf):=(za HY).1 2 _ rfl
  obtain ⟨y2,z2,q2⟩:=zc (za HY).2.2.1 (j:=2) (by omega)
  have c3:V.cell? ⟨w.heap.size,3,none⟩ = some (.int .i64 atr):=(za HY).1 3 _ rfl
  obtain ⟨y3,z3,q3⟩:=zc (za HY).2.2.1 (j:=3) (by omega)
  have c4:V.cell? ⟨w.heap.size,4,none⟩ = some (.int .i64 avo):=(za HY).1 4 _ rfl
  obtain ⟨y4,z4,q4⟩:=zc (za HY).2.2.1 (j:=4) (by omega)
  have c5:V.cell? ⟨w.heap.size,5,none⟩ = some (.int .i64 ano):=(za HY).1 5 _ rfl
  obtain ⟨y5,z5,q5⟩:=zc (za HY).2.2.1 (j:=5) (by omega)
  have c6:V.cell? ⟨w.heap.size,6,none⟩ = some (.int .i64 ali):=(za HY).1 6 _ rfl
  obtain ⟨y6,z6,q6⟩:=zc (za HY).2.2.1 (j:=6) (by omega)
  have c7:V.cell? ⟨w.heap.size,7,none⟩ = some (.int .i64 ale):=(za HY).1 7 _ rfl
  obtain ⟨y7,z7,q7⟩:=zc (za HY).2.2.1 (j:=7) (by omega)
  have HR8:=hide (World.rangeAt_setCells_same V (w.heap.size + 1 + 1) 0 [.int .i64 agr,.int .i64 aac,.int .i64 arf,.int .i64 atr,.int .i64 avo,.int .i64 ano,.int .i64 ali,.int .i64 ale] (fun j hj=>(za HY).2.2.1 j hj))
  have HB8:=hide (zn (w.heap.size + 1 + 1) (by omega) [.int .i64 agr,.int .i64 aac,.int .i64 arf,.int .i64 atr,.int .i64 avo,.int .i64 ano,.int .i64 ali,.int .i64 ale] 0 V (za HY).2.2.2.1)
  refine za HK1 _ _ ?_
  clear HK1
  go_wp2_with fail
  change bodyPost _ _ _ _ _ (V.setCells (w.heap.size + 1 + 1) 0 [.int .i64 agr,.int .i64 aac,.int .i64 arf,.int .i64 atr,.int .i64 avo,.int .i64 ano,.int .i64 ali,.int .i64 ale])
  generalize V.setCells (w.heap.size + 1 + 1) 0 [.int .i64 agr,.int .i64 aac,.int .i64 arf,.int .i64 atr,.int .i64 avo,.int .i64 ano,.int .i64 ali,.int .i64 ale] = WE at HR8 HB8 ⊢
  have d0:WE.cell? ⟨w.heap.size + 1 + 1,0,none⟩ = some (.int .i64 agr):=za HR8 0 _ rfl
  have d1:WE.cell? ⟨w.heap.size + 1 + 1,1,none⟩ = some (.int .i64 aac):=za HR8 1 _ rfl
  have d2:WE.cell? ⟨w.heap.size + 1 + 1,2,none⟩ = some (.int .i64 arf):=za HR8 2 _ rfl
  have d3:WE.cell? ⟨w.heap.size + 1 + 1,3,none⟩ = some (.int .i64 atr):=za HR8 3 _ rfl
  have d4:WE.cell? ⟨w.heap.size + 1 + 1,4,none⟩ = some (.int .i64 avo):=za HR8 4 _ rfl
  have d5:WE.cell? ⟨w.heap.size + 1 + 1,5,none⟩ = some (.int .i64 ano):=za HR8 5 _ rfl
  have d6:WE.cell? ⟨w.heap.size + 1 + 1,6,none⟩ = some (.int .i64 ali):=za HR8 6 _ rfl
  have d7:WE.cell? ⟨w.heap.size + 1 + 1,7,none⟩ = some (.int .i64 ale):=za HR8 7 _ rfl
  refine bodyPost_ret (by simp [results,Tryz.results125,go_sem,d0,d1,d2,d3,d4,d5,d6,d7]; try rfl) rfl ?_
  exact ⟨by rw [za HTT],za HB8⟩
 clear HK1
 by_cases h1:e.kind = 1
 ·have b1:(e.kind == 1) = true:=by simpa using h1
  have HE:=hide ((za HM).trans (if_pos h1))
  clear HM h1
  go_wp2_with fail
  exact za HT _ (Tot.mk tgr (wrap64 (tac + 1)) trf ttr tvo tno tli tle) _ _ _ _ _ _ _ _ _ _ _ _ _ _ _ _ _ _ _ _ _ _ _ _ _ _ _ _ _ _ _ _ _ _ _ _ _ _ _ _ _ _ _ _ _ _ _ _ _ _ _ _ _ (za HE) (keepB (za HX) 1 (by simp) _)
 have b1:(e.kind == 1) = false:=by rw [beq_eq_false_iff_ne]; exact h1
 by_cases h2:e.kind = 2
 ·have b2:(e.kind == 2) = true:=by simpa using h2
  have HE:=hide ((za HM).trans ((if_neg h1).trans (if_pos h2)))
  clear HM h1 h2
  go_wp2_with fail
  exact za HT _ (Tot.mk tgr tac (wrap64 (trf + 1)) ttr tvo tno tli tle) _ _ _ _ _ _ _ _ _ _ _ _ _ _ _ _ _ _ _ _ _ _ _ _ _ _ _ _ _ _ _ _ _ _ _ _ _ _ _ _ _ _ _ _ _ _ _ _ _ _ _ _ _ (za HE) (keepB (za HX) 2 (by simp) _)
 have b2:(e.kind == 2) = false:=by rw [beq_eq_false_iff_ne]; exact h2
 by_cases h3:e.kind = 3
 ·have b3:(e.kind == 3) = true:=by simpa using h3
  have HE:=hide ((za HM).trans ((if_neg h1).trans ((if_neg h2).trans (if_pos h3))))
  clear HM h1 h2 h3
  go_wp2_with fail
  exact za HT _ (Tot.mk tgr tac trf (wrap64 (ttr + 1)) (wrap64 (tvo + e.qty)) (wrap64 (tno + wrap64 (e.qty * e.price))) tli (wrap64 (tle - e.qty))) _ _ _ _ _ _ _ _ _ _ _ _ _ _ _ _ _ _ _ _ _ _ _ _ _ _ _ _ _ _ _ _ _ _ _ _ _ _ _ _ _ _ _ _ _ _ _ _ _ _ _ _ _ (za HE) (keepB (keepB (keepB (keepB (za HX) 3 (by simp) _) 4 (by simp) _) 5 (by simp) _) 7 (by simp) _)
 have b3:(e.kind == 3) = false:=by rw [beq_eq_false_iff_ne]; exact h3
 by_cases h4:e.kind = 4
 ·have b4:(e.kind == 4) = true:=by simpa using h4
  have HE:=hide ((za HM).trans ((if_neg h1).trans ((if_neg h2).trans ((if_neg h3).trans (if_pos h4)))))
  clear HM h1 h2 h3 h4
  go_wp2_with fail
  exact za HT _ (Tot.mk tgr tac trf ttr tvo tno (wrap64 (tli + 1)) (wrap64 (tle + e.qty))) _ _ _ _ _ _ _ _ _ _ _ _ _ _ _ _ _ _ _ _ _ _ _ _ _ _ _ _ _ _ _ _ _ _ _ _ _ _ _ _ _ _ _ _ _ _ _ _ _ _ _ _ _ (za HE) (keepB (keepB (za HX) 6 (by simp) _) 7 (by simp) _)
 have b4:(e.kind == 4) = false:=by rw [beq_eq_false_iff_ne]; exact h4
 have HE:=hide ((za HM).trans ((if_neg h1).trans ((if_neg h2).trans ((if_neg h3).trans (if_neg h4)))))
 clear HM h1 h2 h3 h4
 go_wp2_with fail
 exact za HT _ (Tot.mk tgr tac trf ttr tvo tno tli tle) _ _ _ _ _ _ _ _ _ _ _ _ _ _ _ _ _ _ _ _ _ _ _ _ _ _ _ _ _ _ _ _ _ _ _ _ _ _ _ _ _ _ _ _ _ _ _ _ _ _ _ _ _ (za HE) (za HX)
end Go.Proofs.YtfoabgghlnjjoaaGreat
