package pager

import (
	"slices"

	"grommet/api"
)

// frame is where a page may stand.
type frame struct {
	room    int // where it begins in the arena
	page    page
	taken   bool
	touched bool // it was read or written since it was passed last
	changed bool // its page isn't as its block is
}

// want is the frame in which a page stands; it is brought into one, if it stands in none.
func (p *Pager) want(x page) (*frame, api.Errno) {
	i, stands := p.stands[x]
	if !stands {
		var e api.Errno
		if i, e = p.bring(x); e != api.OK {
			return nil, e
		}
	}
	f := &p.frames[i]
	f.touched = true
	return f, api.OK
}

// bring brings a page into a frame, and is that one's number.
func (p *Pager) bring(x page) (int, api.Errno) {
	i, e := p.vacant()
	if e != api.OK {
		return 0, e
	}
	b, e := p.load(x)
	if e != api.OK {
		return 0, e
	}
	f := &p.frames[i]
	p.arena.Copy(f.room, b)
	f.page, f.taken = x, true
	p.stands[x] = i
	return i, api.OK
}

// vacant is the number of a frame without a page: the first one, or, if all are taken, one whose page is let go.
func (p *Pager) vacant() (int, api.Errno) {
	if i := slices.IndexFunc(p.frames, func(f frame) bool { return !f.taken }); i >= 0 {
		return i, api.OK
	}
	i := p.round()
	if e := p.save(i); e != api.OK {
		return 0, e
	}
	p.vacate(i)
	return i, api.OK
}

// round goes round the frames, all of which are taken, to the first one that wasn't touched since it was passed last.
func (p *Pager) round() int {
	for {
		i := p.hand
		p.hand = (i + 1) % len(p.frames)
		if !p.frames[i].touched {
			return i
		}
		p.frames[i].touched = false
	}
}

// vacate lets a frame have no page any more.
func (p *Pager) vacate(i int) {
	delete(p.stands, p.frames[i].page)
	p.frames[i] = frame{room: p.frames[i].room}
}
