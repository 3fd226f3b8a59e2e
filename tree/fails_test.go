package tree_test

import (
	"fmt"
	"slices"
	"testing"

	"escritoire/api"
	"escritoire/audit"
	"escritoire/device"
	"escritoire/store"
	"escritoire/tree"
)

// job is one splice of a desk's tree.
type job struct {
	i, j int
	put  []api.Piece
}

// jobs are at the beginning, in the midst and at the end: such as put one in, take one out, fill pages, empty them, take all.
func (k *desk) jobs() []job {
	n := len(k.list)
	return []job{
		{0, 0, k.some(1)}, {n / 2, n / 2, k.some(1)}, {n, n, k.some(1)}, {0, min(1, n), nil}, {n / 2, min(n/2+1, n), nil}, {max(n-1, 0), n, nil},
		{n / 2, n / 2, k.some(21)}, {n / 3, n / 3, k.some(130)}, {n / 4, n * 3 / 4, nil}, {min(5, n), n, nil}, {0, max(n-3, 0), k.some(2)}, {0, n, nil}, {0, n, k.some(50)},
	}
}

func (k *desk) do(x job) (*tree.Tree, api.Errno) {
	return k.now.Splice(place(k.list, x.i), place(k.list, x.j), x.put)
}

// stands is all that a store tells without an op.
func stands(s *store.Store) string {
	return fmt.Sprint(s.Free(), own(s), s.Super())
}

// P14.3, T4: with each count of free pages: the splice is done if there are as many as its new tree has new pages, else it is ErrFull, and all is as it was: behind a Back, and, if there is no point, without one.
func TestFull(t *testing.T) {
	t.Parallel()
	for _, n := range []int{0, 1, 20, 45, 130, 300} {
		for _, marked := range []bool{false, true} {
			k := grown(t, 200, 8, n)
			k.anchor()
			jobs := k.jobs()
			var needs []int
			for i, x := range jobs {
				needs = append(needs, k.need(fmt.Sprintf("%d pieces, job %d", n, i), x))
			}
			k.commit("all")
			for room := slices.Max(needs) + 2; room >= 0; room-- {
				k.fillTo(room)
				if marked {
					k.s.Mark()
				}
				for i, x := range jobs {
					what := fmt.Sprintf("%d pieces, room for %d of %d, job %d", n, room, needs[i], i)
					if marked || room < needs[i] {
						k.wantRoom(what, x, room >= needs[i], marked)
					}
				}
			}
		}
	}
}

// need is how many new pages a splice takes, if there is room for any.
func (k *desk) need(what string, x job) int {
	k.t.Helper()
	k.s.Mark()
	old := k.wantNow(what)
	next, e := k.do(x)
	wantSays(k.t, what, e, api.OK)
	fresh := without(wantTree(k.t, what, k.s, next, spliced(k.list, x.i, x.j, x.put)), old)
	k.s.Back()
	return len(fresh)
}

// fillTo takes pages till so many are free.
func (k *desk) fillTo(room int) {
	k.t.Helper()
	for k.s.Free() > room {
		_, e := k.s.Alloc()
		wantSays(k.t, "Alloc", e, api.OK)
	}
}

func (k *desk) wantRoom(what string, x job, enough, marked bool) {
	k.t.Helper()
	ahead := stands(k.s)
	next, e := k.do(x)
	if enough {
		wantSays(k.t, what, e, api.OK)
		wantTree(k.t, what, k.s, next, spliced(k.list, x.i, x.j, x.put))
	} else {
		k.wantFailed(what, next, e, api.ErrFull, ahead)
	}
	if k.s.Back() != marked || stands(k.s) != ahead {
		k.t.Fatalf("%s: Back leaves %s, ahead was %s", what, stands(k.s), ahead)
	}
	k.wantNow(what + ": Back")
}

// wantFailed: R2, R3: no tree, and all is as it was, the elder tree too.
func (k *desk) wantFailed(what string, next *tree.Tree, got, want api.Errno, ahead string) {
	k.t.Helper()
	if next != nil || got != want {
		k.t.Fatalf("%s: %v, %v, want none, %v", what, next, got, want)
	}
	if now := stands(k.s); now != ahead {
		k.t.Fatalf("%s: the store is %s, was %s", what, now, ahead)
	}
	if k.s.Pinned() != 0 || k.s.Resident() > 8 {
		k.t.Fatalf("%s: %d pinned, %d resident", what, k.s.Pinned(), k.s.Resident())
	}
}

// busy is a desk whose frames are all dirty, but for those that hold what was last looked at, on a device behind a commit: so that a splice reads and writes the device.
func busy(t *testing.T, n int) *desk {
	t.Helper()
	k := grown(t, 300, 8, n)
	k.anchor()
	k.commit("all")
	k.splice("one more", n/2, n/2, k.some(1))
	for range 8 {
		write(t, k.s, make([]byte, api.PageSize))
	}
	k.s.Mark()
	return k
}

// T4, P14.3: each op of the device fails, is done and says that it failed, or is its last: ErrIO, Back gives all back, and the same can be done then, if the device is not dead.
func TestFailingOps(t *testing.T) {
	t.Parallel()
	for _, n := range []int{0, 1, 20, 45, 130, 300} {
		for i := range busy(t, n).jobs() {
			rehearsal := busy(t, n)
			before := rehearsal.s.Device().Ops()
			_, e := rehearsal.do(rehearsal.jobs()[i])
			wantSays(t, "rehearsal", e, api.OK)
			ops := rehearsal.s.Device().Ops() - before
			if ops == 0 {
				t.Errorf("%d pieces, job %d: no ops", n, i)
			}
			for fail := range ops {
				for _, outcome := range []byte{1, 2, dies} {
					busy(t, n).wantFails(fmt.Sprintf("%d pieces, job %d, op %d with outcome %d", n, i, fail, outcome), i, fail, outcome)
				}
			}
		}
	}
}

// dies stands for the fuse.
const dies = 99

func (k *desk) wantFails(what string, i, fail int, outcome byte) {
	k.t.Helper()
	x, d := k.jobs()[i], k.s.Device()
	ahead := stands(k.s)
	sure, e := audit.Open(d.Crash(nil))
	wantSays(k.t, what, e, api.OK)
	if outcome == dies {
		d.Fuse(fail)
	} else {
		d.Outcomes(append(make([]byte, fail), outcome))
	}
	next, e := k.do(x)
	if outcome == 2 && e == api.OK {
		// That op was a Read, to which such an outcome does nothing.
		wantTree(k.t, what, k.s, next, spliced(k.list, x.i, x.j, x.put))
		return
	}
	k.wantFailed(what, next, e, api.ErrIO, ahead)
	if !k.s.Back() || stands(k.s) != ahead {
		k.t.Fatalf("%s: Back leaves %s, ahead was %s", what, stands(k.s), ahead)
	}
	if outcome == dies {
		wantSure(k.t, what, d, sure.Pieces)
		return
	}
	k.wantNow(what + ": Back")
	k.splice(what+": again", x.i, x.j, x.put)
}

// wantSure: T2: the last commit is found behind a crash, whatever is left.
func wantSure(t *testing.T, what string, d *device.Device, want []api.Piece) {
	t.Helper()
	for _, choice := range [][]byte{nil, make([]byte, 400), {1, 2, 4, 8, 3, 5, 0, 15}} {
		r, e := audit.Open(d.Crash(choice))
		wantSays(t, what+": behind a crash", e, api.OK)
		wantPieces(t, what+": behind a crash", r.Pieces, want)
	}
}

// T3: nothing that the last commit reaches is written, whatever is spliced behind it: it is found behind a crash at any time.
func TestLastCommitStays(t *testing.T) {
	t.Parallel()
	for seed := range 4 {
		k := grown(t, 600, 8, 100*seed)
		k.r.Seed(int64(seed))
		k.anchor()
		for i := range 60 {
			what := fmt.Sprintf("seed %d, splice %d", seed, i)
			if i%12 == 0 {
				k.commit(what)
			}
			sure, e := k.now.All()
			wantSays(t, what, e, api.OK)
			if i%12 != 0 {
				r, e := audit.Open(k.s.Device())
				wantSays(t, what, e, api.OK)
				sure = r.Pieces
			}
			a, b, put := k.anySplice()
			k.splice(what, a, b, put)
			wantSays(t, what, k.s.Evict(8), api.OK)
			wantSure(t, what, k.s.Device(), sure)
		}
	}
}
