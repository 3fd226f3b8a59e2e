package store

import (
	"escritoire/api"
	"escritoire/chain"
	"escritoire/device"
	"escritoire/pool"
	"escritoire/space"
	"escritoire/super"
)

// Format answers a store with nothing in it on a device, whatever stood there.
func Format(d *device.Device, frames int) (*Store, api.Errno) {
	p, e := pool.New(d, frames)
	if e != api.OK {
		return nil, e
	}
	sp, e := space.New(d.Pages())
	if e != api.OK {
		// Such Pages has a device that no call made alone: whatever is written there, it says ErrState.
		return nil, api.ErrState
	}
	s := &Store{device: d, pool: p, space: sp}
	if e := caught(s.format, func() {}); e != api.OK {
		return nil, e
	}
	return s, api.OK
}

// format lays all pages ahead of writing the first. The superblock is written last, as it leads to the others.
func (s *Store) format() {
	pages, e := take(s.space, chain.Need(len(s.space.Bits())))
	check(e)
	s.space.Commit()
	sheets, e := chain.Cut(s.space.Bits(), pages)
	check(e)
	s.sure = api.Super{Gen: 1, Pages: s.device.Pages(), Free: pages[0]}
	s.chains, s.tried = pages, s.sure.Gen
	block, e := super.Encode(s.sure)
	check(e)
	for i, sheet := range sheets {
		check(s.device.Write(pages[i], sheet))
	}
	check(s.device.Write(1, make([]byte, api.PageSize)))
	check(s.device.Write(s.place, block))
	check(s.device.Sync())
}

// Commit makes what was done since the last one last, with n's tree and a state; if it fails, that one holds, and what was done since is still there to be committed.
func (s *Store) Commit(n api.Super, state []byte) api.Errno {
	if !s.made() {
		return api.ErrState
	}
	c := &commit{store: s, state: state}
	c.next = api.Super{Gen: s.tried + 1, Pages: s.device.Pages(), Root: n.Root, Height: n.Height, Bytes: n.Bytes, Lines: n.Lines}
	return caught(c.run, c.fail)
}

// commit is one under way. The store's own space is not touched before it is known how it ends.
type commit struct {
	store  *Store
	state  []byte
	next   api.Super    // the superblock that it is to write
	chains []int        // the pages of its chains, the state's first
	taken  *space.Space // as the store's is, but that the chains are own
	behind *space.Space // as it is when all is done
	begun  bool         // whether there may be a superblock of it on the device
}

// run does its steps, which stand in the order of the errors and of what is done on the device.
func (c *commit) run() {
	s := c.store
	steps := []func() api.Errno{
		c.checkSuper,
		c.checkState,
		c.takeRoom,
		c.putChains,
		s.pool.Flush,
		s.device.Sync,
		c.writeSuper,
		s.device.Sync,
	}
	for _, step := range steps {
		check(step())
	}
	c.behind.Commit()
	s.settle(c.behind)
	s.sure, s.place, s.chains = c.next, c.place(), c.chains
}

func (c *commit) checkSuper() api.Errno {
	return super.Check(c.next)
}

func (c *commit) checkState() api.Errno {
	if len(c.state) > api.MaxBlob {
		return api.ErrLong
	}
	return api.OK
}

// takeRoom finds room for the chains. What is held is given up behind that, so that it is not taken: if the superblock is never begun, Back needs it.
func (c *commit) takeRoom() api.Errno {
	s := c.store
	sp := s.space.Clone()
	n := chain.Need(len(c.state))
	pages, e := take(sp, n+chain.Need(len(sp.Bits())))
	if e != api.OK {
		return e
	}
	giveAll(sp, s.heldPages())
	c.chains, c.taken, c.behind = pages, sp, sp.Clone()
	giveAll(c.behind, s.chains)
	if n > 0 {
		c.next.State = pages[0]
	}
	c.next.Free = pages[n]
	return api.OK
}

// putChains lets the pool have the chains' pages, to be written with all others.
func (c *commit) putChains() api.Errno {
	n := chain.Need(len(c.state))
	e := c.put(c.state, c.chains[:n])
	if e != api.OK {
		return e
	}
	return c.put(c.behind.Bits(), c.chains[n:])
}

func (c *commit) put(b []byte, pages []int) api.Errno {
	sheets, e := chain.Cut(b, pages)
	if e != api.OK {
		return e
	}
	for i, sheet := range sheets {
		if e := c.store.pool.Put(pages[i], sheet); e != api.OK {
			return e
		}
	}
	return api.OK
}

// writeSuper goes past the pool, which writes what it has when it likes; what it read of that page before is no longer so.
func (c *commit) writeSuper() api.Errno {
	b, e := super.Encode(c.next)
	if e != api.OK {
		return e
	}
	c.begun = true
	c.store.tried = c.next.Gen
	c.store.pool.Forget(c.place())
	return c.store.device.Write(c.place(), b)
}

// place is the one that the sure superblock does not have.
func (c *commit) place() int {
	return supers - 1 - c.store.place
}

// fail leaves the store as it was; but if there may be a superblock on the device, nothing that it reaches is free before another one is done.
func (c *commit) fail() {
	s := c.store
	for _, page := range c.chains {
		s.pool.Forget(page)
	}
	if !c.begun {
		return
	}
	c.taken.Doubt()
	giveAll(c.taken, c.chains)
	s.settle(c.taken)
}

// check ends what is under way at its first error.
func check(e api.Errno) {
	if e != api.OK {
		panic(e)
	}
}

// caught does what may end by an error; then it does what is to be done behind that, and answers it.
func caught(do, behind func()) (e api.Errno) {
	defer func() {
		if thrown := recover(); thrown != nil {
			e = thrown.(api.Errno)
			behind()
		}
	}()
	do()
	return api.OK
}
