package text_test

import (
	"fmt"
	"math/rand"
	"testing"

	"escritoire/api"
	"escritoire/audit"
	"escritoire/device"
)

// P15.4: Back behind Open, behind Keep, once more, behind a Commit.
func TestBack(t *testing.T) {
	for _, shape := range shapes {
		k := grown(t, 64, 8, shape...)
		what := fmt.Sprint(shape)
		if k.x.Back() {
			t.Fatalf("%s: Back without a Keep", what)
		}
		k.wantNow(what)
		k.keep()
		ahead := stands(k)
		for range 3 {
			k.insert(what, len(k.b)/2, k.some(300))
			k.delete(what, len(k.b)/3, 200)
			k.step(what)
			k.wantNow(what)
			k.back(what)
			if now := stands(k); now != ahead {
				t.Fatalf("%s: %s, was %s", what, now, ahead)
			}
		}
		k.back(what + ": nothing was done")
		k.insert(what, 0, k.some(3))
		k.keep()
		k.delete(what, 0, len(k.b))
		k.back(what + ": the second Keep")
		k.delete(what, 1, 2)
		k.commit(what, "behind Back")
		if k.x.Back() {
			t.Fatalf("%s: Back behind a Commit", what)
		}
		k.committed(what, "behind Back")
		k.insert(what, 0, k.some(3))
		if k.x.Back() {
			t.Fatalf("%s: Back behind a Commit, and without a Keep", what)
		}
		k.wantNow(what)
		k.keep()
		k.delete(what, 0, 2)
		k.back(what + ": a Keep behind a Commit")
		k.commit(what, "the last one")
	}
}

// A point that the store was given, and the text was not told of: without a Keep Back goes to what was opened.
func TestBackWithoutAKeep(t *testing.T) {
	k := grown(t, 64, 8, 300, 5)
	k.commit("all", "all")
	k = k.again(t)
	k.kept = k.row
	k.s.Mark()
	k.insert("words", 7, k.some(300))
	k.delete("words", 200, 50)
	k.back("without a Keep")
	k.commit("without a Keep", "behind it")
}

// P15.4: behind a Commit that finds no room Back goes on to what it went to, and the text goes on as it was.
func TestBackBehindACommitWithoutRoom(t *testing.T) {
	for _, backs := range []bool{false, true} {
		k := grown(t, 32, 8, 300, 5)
		k.commit("all", "all")
		k.insert("words", 7, k.some(30))
		k.keep()
		k.delete("words", 20, 100)
		ahead := stands(k)
		k.wantRefused("no room", k.x.Commit(make([]byte, 9000)), api.ErrFull, ahead)
		k.wantNow("no room")
		if b, e := k.x.State(); string(b) != "all" || e != api.OK {
			t.Errorf("State = %q, %v", b, e)
		}
		if backs {
			k.back("no room")
		}
		k.insert("words", 3, k.some(300))
		k.commit("room", "room")
	}
}

// P15.4, T4: each op of a Commit fails, or is done and says that it failed. Ahead of the superblock's Write Back goes on to what it went to; from there on there is no Back; the text goes on as it was, and is committed by the next one.
func TestBackBehindACommitThatFails(t *testing.T) {
	t.Parallel()
	all := grown(t, 64, 8, 500, 5, 3)
	all.commit("all", "all")
	begin := func() *desk {
		k := all.again(t)
		k.insert("words", 7, k.some(300))
		k.keep()
		k.delete("words", 200, 100)
		return k
	}
	k := begin()
	before := k.s.Device().Ops()
	wantSays(t, "Commit", k.x.Commit([]byte("next")), api.OK)
	ops := k.s.Device().Ops() - before
	for fail := range ops {
		for _, outcome := range []byte{1, 2} {
			for _, goes := range []string{"on", "back", "commit"} {
				what := fmt.Sprintf("op %d of %d with outcome %d, then %s", fail, ops, outcome, goes)
				k := begin()
				k.s.Device().Outcomes(append(noughts(fail), outcome))
				wantSays(t, what, k.x.Commit([]byte("next")), api.ErrIO)
				begun := fail >= ops-2
				if begun {
					// Nobody knows whether it was done: its pages are no longer own.
					k.since = len(k.texts)
				}
				k.wantNow(what)
				if b, e := k.x.State(); string(b) != "all" || e != api.OK {
					t.Fatalf("%s: State = %q, %v", what, b, e)
				}
				switch goes {
				case "on":
					k.insert(what, 100, k.some(300))
					k.tidy(what)
				case "back":
					if begun {
						if k.x.Back() {
							t.Fatalf("%s: Back", what)
						}
						k.wantNow(what)
						break
					}
					k.back(what)
				}
				k.commit(what, "behind it")
			}
		}
	}
}

func noughts(n int) []byte {
	return make([]byte, n)
}

// any does any of the calls that change a text, and tells which; none that would make more than so many bytes of it.
func (k *desk) any(most int) (string, api.Errno) {
	at := k.r.Intn(len(k.b) + 1)
	switch k.r.Intn(7) {
	case 0, 1, 2:
		b := k.some(k.r.Intn([]int{4, 30, 700}[k.r.Intn(3)]))
		if len(k.b)+len(b) > most {
			return "", api.OK
		}
		e := k.x.Insert(at, b)
		if e == api.OK {
			k.inserted(at, b)
		}
		return fmt.Sprintf("Insert(%d) of %d", at, len(b)), e
	case 3, 4, 5:
		n := k.r.Intn(min(len(k.b)-at, []int{4, 60, 900}[k.r.Intn(3)]) + 1)
		if k.r.Intn(20) == 0 {
			at, n = 0, len(k.b)
		}
		e := k.x.Delete(at, n)
		if e == api.OK {
			k.row = k.row.deleted(at, n)
		}
		return fmt.Sprintf("Delete(%d, %d)", at, n), e
	}
	ok, e := k.x.Step()
	if e == api.OK {
		k.stepped()
	}
	return fmt.Sprint("Step: ", ok), e
}

// P15.1 to P15.5, T3: long rows of calls, held against a plain row of bytes, on few frames, with Evict, Keep, Back and Commit on the way.
func TestRows(t *testing.T) {
	t.Parallel()
	for seed := range 12 {
		k := deskOf(t, 256, 8)
		k.r.Seed(int64(seed))
		k.keep()
		there := true
		for i := range 150 {
			what, e := k.any(9000)
			what = fmt.Sprintf("seed %d, call %d, %s", seed, i, what)
			wantSays(t, what, e, api.OK)
			k.wantNow(what)
			k.wantLine(k.r.Intn(len(k.b) + 1))
			k.wantBegin(k.r.Intn(k.lines() + 2))
			at := k.r.Intn(len(k.b) + 1)
			wantRead(t, what, k.x, k.row, at, k.r.Intn(len(k.b)-at+1))
			switch k.r.Intn(12) {
			case 0:
				k.commit(what, what)
				there = false
			case 1, 2, 3:
				k.keep()
				there = true
			case 4:
				if k.x.Back() != there {
					t.Fatalf("%s: Back, but there is a point: %v", what, there)
				}
				if there {
					k.row = k.kept
				}
				k.wantNow(what)
			case 5:
				wantSays(t, what, k.x.Evict(k.r.Intn(20)), api.OK)
			}
		}
		k.tidy(fmt.Sprint("seed ", seed))
		k.commit(fmt.Sprint("seed ", seed), "the last one")
	}
}

// play tells all answers of a row of calls.
func play(t *testing.T, seed, frames int, evicts bool) ([]string, *desk) {
	t.Helper()
	k := deskOf(t, 160, frames)
	k.r.Seed(int64(seed))
	var told []string
	tell := func(l ...any) {
		told = append(told, fmt.Sprintf("%q", l))
		if evicts {
			wantSays(t, "Evict", k.x.Evict(999), api.OK)
			if k.s.Resident() != 0 {
				t.Fatalf("%d resident", k.s.Resident())
			}
		}
	}
	for i := range 120 {
		tell(k.any(6000))
		tell(k.x.Read(len(k.b)/3, len(k.b)/2))
		tell(k.x.Begin(k.lines() / 2))
		tell(k.x.Line(len(k.b) / 2))
		tell(k.x.Len(), k.x.Lines(), k.x.Pieces(), k.s.Free(), own(k.s))
		switch i % 7 {
		case 3:
			k.x.Keep()
			k.kept = k.row
		case 5:
			if ok := k.x.Back(); ok {
				k.row = k.kept
			}
			tell(k.x.Read(0, len(k.b)))
		case 6:
			tell(k.x.Commit(fmt.Append(nil, "state ", i)), k.s.Super())
			tell(k.x.State())
			k.since = len(k.texts)
		}
	}
	k.wantNow(fmt.Sprintf("seed %d, %d frames", seed, frames))
	return told, k
}

// T5, R5: few frames, and Evict ahead of each call, change no answer; the same calls get the same answers once more.
func TestFrames(t *testing.T) {
	t.Parallel()
	for seed := range 4 {
		want, k := play(t, seed, 8, false)
		for _, frames := range []int{8, 9, 30, 4096} {
			for _, evicts := range []bool{false, true} {
				got, _ := play(t, seed, frames, evicts)
				for i := range want {
					if got[i] != want[i] {
						t.Fatalf("seed %d, %d frames, evicts %v: answer %d is %s, want %s", seed, frames, evicts, i, got[i], want[i])
					}
				}
			}
		}
		k.commit("at the end", "at the end")
	}
}

// found is what is there behind a crash, by audit and by an Open.
func found(t *testing.T, what string, d *device.Device) version {
	t.Helper()
	r, e := audit.Open(d)
	wantSays(t, what+": audit.Open", e, api.OK)
	_, x := opened(t, what, d)
	b, e := x.Read(0, x.Len())
	wantSays(t, what+": Read", e, api.OK)
	state, e := x.State()
	wantSays(t, what+": State", e, api.OK)
	if string(b) != string(r.Text) || string(state) != string(r.State) || x.Pieces() != len(r.Pieces) {
		t.Fatalf("%s: Open has %q, %q, audit %q, %q", what, b, state, r.Text, r.State)
	}
	return version{string(b), string(state)}
}

// choices are of what is left behind a crash: all, nothing, single sectors, and any.
func choices(r *rand.Rand) [][]byte {
	l := [][]byte{nil, noughts(999), {1, 2, 4, 8, 3, 5, 0, 15}, {0, 15, 0, 15, 0, 15, 0, 15, 0, 15}}
	for range 3 {
		b := make([]byte, 60)
		for i := range b {
			b[i] = byte(r.Intn(16))
		}
		l = append(l, b)
	}
	return l
}

// wantLast: T2: behind a crash the last commit that was done is found, or one that was begun behind it.
func (k *desk) wantLast(what string, may []version) {
	k.t.Helper()
	for i, choice := range choices(k.r) {
		got := found(k.t, what, k.s.Device().Crash(choice))
		ok := false
		for _, v := range may {
			ok = ok || v == got
		}
		if !ok {
			k.t.Fatalf("%s: choice %d: %d bytes, state %q, want one of %d", what, i, len(got.text), got.state, len(may))
		}
	}
}

// T2: a device dies at each op of a row of calls.
func TestDeath(t *testing.T) {
	t.Parallel()
	for seed := range 3 {
		for fuse := 0; ; fuse++ {
			k := deskOf(t, 128, 8)
			k.r.Seed(int64(seed))
			sure := version{}
			may := []version{sure}
			k.s.Device().Fuse(fuse)
			for i := 0; i < 36 && !k.s.Device().Dead(); i++ {
				if i%6 != 5 {
					k.x.Keep()
					k.any(5000)
					continue
				}
				now := version{string(k.b), fmt.Sprint("state ", i)}
				may = append(may, now)
				if k.x.Commit([]byte(now.state)) == api.OK {
					may = []version{now}
				}
			}
			k.wantLast(fmt.Sprintf("seed %d, fuse %d", seed, fuse), may)
			if !k.s.Device().Dead() {
				break
			}
		}
	}
}

// T2, T3, T4: ops fail here and there; each call that fails is taken back, and the text goes on; at each time it may crash; behind a commit nothing leaks.
func TestFailsHereAndThere(t *testing.T) {
	t.Parallel()
	for seed := range 16 {
		k := deskOf(t, 200, 8)
		k.r.Seed(int64(seed))
		may := []version{{}}
		for i := range 60 {
			k.keep()
			outcomes := noughts(k.r.Intn(9))
			k.s.Device().Outcomes(append(outcomes, byte(1+k.r.Intn(2))))
			what, e := "Commit", api.OK
			if i%6 == 5 {
				now := version{string(k.b), fmt.Sprint("state ", i)}
				may = append(may, now)
				if e = k.x.Commit([]byte(now.state)); e == api.OK {
					may, k.since = []version{now}, len(k.texts)
				}
			} else {
				what, e = k.any(8000)
			}
			what = fmt.Sprintf("seed %d, call %d, %s: %v", seed, i, what, e)
			if e != api.OK && e != api.ErrIO {
				t.Fatal(what)
			}
			k.allDone()
			if e == api.OK {
				wantText(t, what, k.x, k.row)
			} else if k.x.Back() {
				k.row = k.kept
				k.wantNow(what)
				if i%6 == 5 {
					// Its superblock's Write was not begun.
					may = may[:len(may)-1]
				}
			} else if i%6 == 5 {
				k.since = len(k.texts)
				k.wantNow(what)
			} else {
				t.Fatalf("%s: no Back", what)
			}
			if i%3 == 0 {
				wantSays(t, what, k.x.Evict(99), api.OK)
				k.wantLast(what, may)
			}
		}
		k.commit(fmt.Sprint("seed ", seed), "the last one")
	}
}

// allDone lets no outcome be left.
func (k *desk) allDone() {
	for range 12 {
		k.s.Device().Read(0)
	}
}
