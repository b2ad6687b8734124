package pager

import "grommet/api"

// load is the bytes of a page that stands in no frame.
func (p *Pager) load(x page) ([]byte, api.Errno) {
	id, has := p.blocks[x]
	if !has {
		return make([]byte, p.Size()), api.OK
	}
	b, e := p.store.Read(id)
	return b, p.met(e)
}

// save brings the block of a frame's page, if there is one, to what it must be where that is let go.
func (p *Pager) save(i int) api.Errno {
	f := &p.frames[i]
	if !f.taken {
		return api.OK
	}
	b, e := p.arena.Bytes(f.room, p.Size())
	if zero(b) {
		e = p.free(f.page)
	} else if f.changed {
		e = p.keep(f.page, b)
	}
	f.changed = false
	return e
}

// free frees a page's block, if it has one.
func (p *Pager) free(x page) api.Errno {
	id, has := p.blocks[x]
	if !has {
		return api.OK
	}
	delete(p.blocks, x)
	return p.met(p.store.Free(id))
}

// keep writes a page's bytes to its block; to a new one, if it has none.
func (p *Pager) keep(x page, b []byte) api.Errno {
	id, has := p.blocks[x]
	if !has {
		var e api.Errno
		if id, e = p.store.Alloc(); e != api.OK {
			return p.met(e)
		}
		p.blocks[x] = id
	}
	return p.met(p.store.Write(id, b))
}

// met is what an operation of the store has answered: if that isn't OK, the pager is broken by it.
func (p *Pager) met(e api.Errno) api.Errno {
	p.fault = e
	return e
}

// zero tells whether bytes are all 0.
func zero(b []byte) bool {
	for _, v := range b {
		if v != 0 {
			return false
		}
	}
	return true
}
