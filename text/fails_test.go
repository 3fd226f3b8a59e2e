package text_test

import (
	"fmt"
	"testing"

	"escritoire/api"
	"escritoire/text"
)

// job is one call of a desk's text: what it answers, and what is to be so when it was done.
type job struct {
	what string
	do   func(k *desk) (string, api.Errno)
	done func(k *desk)
	none string // the answer beside an error
}

// changes are jobs that change the text, at the beginning, in the midst and at the end, within pieces and at seams.
func changes() []job {
	var l []job
	put := func(what string, at func(k *desk) int, n int) {
		b := make([]byte, n)
		for i := range b {
			b[i] = byte(8 + i%5)
		}
		l = append(l, job{fmt.Sprintf("Insert of %d %s", n, what), func(k *desk) (string, api.Errno) { return "", k.x.Insert(at(k), b) }, func(k *desk) { k.inserted(at(k), b) }, ""})
	}
	for _, n := range []int{1, 248, 249, 2000} {
		put("at the beginning", func(*desk) int { return 0 }, n)
		put("within a piece", func(k *desk) int { return k.begin(1) + 2 }, n)
		put("at a seam", func(k *desk) int { return k.begin(2) }, n)
		put("at the end", func(k *desk) int { return len(k.b) }, n)
	}
	take := func(what string, from, to func(k *desk) int) {
		l = append(l, job{"Delete " + what, func(k *desk) (string, api.Errno) { return "", k.x.Delete(from(k), to(k)-from(k)) }, func(k *desk) { k.row = k.row.deleted(from(k), to(k)-from(k)) }, ""})
	}
	seam := func(i, d int) func(k *desk) int { return func(k *desk) int { return k.begin(i) + d } }
	end := func(k *desk) int { return len(k.b) }
	take("of the first byte", seam(0, 0), seam(0, 1))
	take("within a piece", seam(1, 1), seam(1, 3))
	take("over two pieces", seam(1, 1), seam(2, 1))
	take("over many pieces", seam(1, 2), seam(7, 2))
	take("from seam to seam", seam(2, 0), seam(5, 0))
	take("of all but a byte", seam(0, 1), end)
	take("of all", seam(0, 0), end)
	return append(l, job{"Step", func(k *desk) (string, api.Errno) { ok, e := k.x.Step(); return fmt.Sprint(ok), e }, (*desk).stepped, "false"})
}

// looks are jobs that change nothing.
func looks() []job {
	nothing := func(*desk) {}
	return []job{
		{"Open", func(k *desk) (string, api.Errno) { x, e := text.Open(k.s); return fmt.Sprint(x != nil), e }, nothing, "false"},
		{"Read", func(k *desk) (string, api.Errno) { b, e := k.x.Read(1, len(k.b)-2); return string(b), e }, nothing, ""},
		{"Read of a byte", func(k *desk) (string, api.Errno) { b, e := k.x.Read(len(k.b)-1, 1); return string(b), e }, nothing, ""},
		{"Begin", func(k *desk) (string, api.Errno) { at, e := k.x.Begin(k.lines()); return fmt.Sprint(at), e }, nothing, "0"},
		{"Line", func(k *desk) (string, api.Errno) { n, e := k.x.Line(len(k.b) - 1); return fmt.Sprint(n), e }, nothing, "0"},
		{"Line at a seam", func(k *desk) (string, api.Errno) { n, e := k.x.Line(k.begin(len(k.l) / 2)); return fmt.Sprint(n), e }, nothing, "0"},
		{"State", func(k *desk) (string, api.Errno) { b, e := k.x.State(); return string(b), e }, nothing, ""},
		{"Evict", func(k *desk) (string, api.Errno) { return "", k.x.Evict(99) }, nothing, ""},
	}
}

// committed is a desk with pieces enough for a tree of two levels, behind a commit.
func committed(t *testing.T) *desk {
	t.Helper()
	k := grown(t, 200, 8, 30, 1, 248, 20, 400, 9, 9, 9, 700, 8, 4, 8, 4, 8, 4, 8, 4, 8, 4, 8, 4, 8, 4, 8, 4, 8)
	k.commit("busy", string(k.some(600)))
	return k
}

// busy is that text once more; a part of it is changed behind the commit, and all frames are dirty with pages that nothing needs, so that a call reads and writes the device.
func (k *desk) busy(t *testing.T, marked bool) *desk {
	t.Helper()
	k = k.again(t)
	k.insert("busy", 500, k.some(300))
	k.delete("busy", 40, 60)
	if marked {
		k.keep()
	}
	k.dirty()
	return k
}

func (k *desk) dirty() {
	k.t.Helper()
	var pages []int
	for range 8 {
		page, e := k.s.Alloc()
		wantSays(k.t, "Alloc", e, api.OK)
		wantSays(k.t, "Write", k.s.Write(page, make([]byte, api.PageSize)), api.OK)
		pages = append(pages, page)
	}
	for _, page := range pages {
		wantSays(k.t, "Drop", k.s.Drop(page), api.OK)
	}
}

// dies stands for the fuse.
const dies = 99

// P15.1 to P15.4, T2, T4: each op of each call fails, is done and says that it failed, or is the device's last: ErrIO, the text is as it was, Back gives back what was taken, and the same can be done then, if the device is not dead.
func TestFailingOps(t *testing.T) {
	t.Parallel()
	all := committed(t)
	for _, j := range append(changes(), looks()...) {
		t.Run(j.what, func(t *testing.T) {
			t.Parallel()
			k := all.busy(t, true)
			before := k.s.Device().Ops()
			want, e := j.do(k)
			wantSays(t, j.what, e, api.OK)
			ops := k.s.Device().Ops() - before
			if ops == 0 {
				t.Errorf("%s: no ops", j.what)
			}
			for fail := range ops {
				for _, outcome := range []byte{1, 2, dies} {
					what := fmt.Sprintf("%s, op %d of %d with outcome %d", j.what, fail, ops, outcome)
					all.busy(t, true).wantFails(what, j, fail, outcome, want)
				}
			}
		})
	}
}

func (k *desk) wantFails(what string, j job, fail int, outcome byte, want string) {
	k.t.Helper()
	d, ahead := k.s.Device(), stands(k)
	if outcome == dies {
		d.Fuse(fail)
	} else {
		d.Outcomes(append(noughts(fail), outcome))
	}
	got, e := j.do(k)
	if outcome == 2 && e == api.OK {
		// That op was a Read, to which such an outcome does nothing.
		k.wantDone(what, j, got, want)
		return
	}
	wantSays(k.t, what, e, api.ErrIO)
	if got != j.none {
		k.t.Fatalf("%s: %q beside %v", what, got, e)
	}
	if outcome == dies {
		k.wantLast(what, []version{k.sure})
	} else {
		wantText(k.t, what, k.x, k.row)
	}
	if !k.x.Back() || stands(k) != ahead {
		k.t.Fatalf("%s: Back leaves %s, ahead was %s", what, stands(k), ahead)
	}
	if outcome == dies {
		return
	}
	k.wantNow(what + ": Back")
	got, e = j.do(k)
	wantSays(k.t, what+": again", e, api.OK)
	k.wantDone(what+": again", j, got, want)
}

// wantDone looks at the text behind a job that was done, and at the device behind a commit.
func (k *desk) wantDone(what string, j job, got, want string) {
	k.t.Helper()
	if got != want {
		k.t.Fatalf("%s: %q, want %q", what, got, want)
	}
	j.done(k)
	k.wantNow(what)
	k.commit(what, "behind it")
}

// fill takes pages till so many are free.
func (k *desk) fill(room int) {
	k.t.Helper()
	for k.s.Free() > room {
		_, e := k.s.Alloc()
		wantSays(k.t, "Alloc", e, api.OK)
	}
}

// need is how many new pages a job takes. Behind a commit all that goes is used, and thus not free before the next one: so it is all that is free less.
func (k *desk) need(j job) int {
	k.t.Helper()
	c := k.again(k.t)
	_, e := j.do(c)
	wantSays(k.t, j.what, e, api.OK)
	return k.s.Free() - c.s.Free()
}

// P15.2, P15.3, T4: with each count of free pages: the call is done if there are as many as it needs, else it is ErrFull, and the text is as it was; Back gives back what was taken.
func TestFull(t *testing.T) {
	t.Parallel()
	all := committed(t)
	for _, j := range changes() {
		need := all.need(j)
		for room := range need + 2 {
			what := fmt.Sprintf("%s, room for %d of %d", j.what, room, need)
			k := all.again(t)
			k.fill(room)
			k.keep()
			ahead := stands(k)
			got, e := j.do(k)
			if room >= need {
				wantSays(t, what, e, api.OK)
				j.done(k)
			} else if e != api.ErrFull || got != j.none {
				t.Fatalf("%s: %q, %v, want %q, full", what, got, e, j.none)
			}
			wantText(t, what, k.x, k.row)
			k.back(what)
			if stands(k) != ahead {
				t.Fatalf("%s: Back leaves %s, ahead was %s", what, stands(k), ahead)
			}
		}
	}
}

// T3: a call that finds no room, or meets a device that fails, gives back what it took by itself, as there is no Back without a point: a Commit behind it leaks nothing.
func TestFailsWithoutAPoint(t *testing.T) {
	t.Parallel()
	all := committed(t)
	for _, j := range changes() {
		for room := range all.need(j) {
			k := all.again(t)
			k.fill(room)
			ahead := stands(k)
			_, e := j.do(k)
			k.wantRefused(fmt.Sprintf("%s, room for %d", j.what, room), e, api.ErrFull, ahead)
		}
		for fail := range 20 {
			what := fmt.Sprintf("%s, op %d fails", j.what, fail)
			k := all.busy(t, false)
			ahead := stands(k)
			k.s.Device().Outcomes(append(noughts(fail), 1))
			_, e := j.do(k)
			if e == api.OK {
				break
			}
			k.wantRefused(what, e, api.ErrIO, ahead)
			k.wantNow(what)
			k.commit(what, "behind it")
		}
	}
}

// P15.4, T4: a Commit finds room for its chains, or is ErrFull, and the text is as it was; behind a Back it is done.
func TestCommitFull(t *testing.T) {
	t.Parallel()
	all := committed(t)
	for _, n := range []int{0, 1, 244, 245, 1000} {
		need := (n+243)/244 + 1
		for room := range need + 2 {
			what := fmt.Sprintf("a state of %d, room for %d of %d", n, room, need)
			k := all.busy(t, true)
			k.fill(room)
			ahead := stands(k)
			if room >= need {
				wantSays(t, what, k.x.Commit(make([]byte, n)), api.OK)
				k.since = len(k.texts)
				k.wantNow(what)
				continue
			}
			k.wantRefused(what, k.x.Commit(make([]byte, n)), api.ErrFull, ahead)
			k.wantNow(what)
			k.back(what)
			k.commit(what, string(make([]byte, n)))
		}
	}
}

// T3: nothing that the last commit reaches is written, whatever is done behind it: it is found behind a crash at any time.
func TestLastCommitStays(t *testing.T) {
	t.Parallel()
	for seed := range 4 {
		k := deskOf(t, 256, 8)
		k.r.Seed(int64(seed))
		for i := range 80 {
			what := fmt.Sprintf("seed %d, call %d", seed, i)
			if i%20 == 5 {
				k.commit(what, what)
			}
			if i%3 == 0 {
				k.keep()
			}
			_, e := k.any(6000)
			wantSays(t, what, e, api.OK)
			wantSays(t, what, k.x.Evict(8), api.OK)
			k.wantLast(what, []version{k.sure})
		}
	}
}
