package disk

import (
	"slices"

	"lamella/api"
)

// Append: P3.2. The power goes at it when its bytes are laid already.
func (d *Disk) Append(b []byte) api.Errno {
	lay := func() api.Errno {
		if sectors(len(d.log)+len(b)) > d.room-sectors(len(d.image))-sectors(len(d.stage)) {
			return api.ErrFull
		}
		d.log = append(d.log, b...)
		return api.OK
	}
	return d.write(lay, func() { lay() })
}

// Sync: P3.2.
func (d *Disk) Sync() api.Errno {
	return d.write(func() api.Errno {
		d.sure = len(d.log)
		return api.OK
	}, nothing)
}

// Cut: P3.2.
func (d *Disk) Cut(n int) api.Errno {
	return d.write(func() api.Errno {
		if n < 0 || n > len(d.log) {
			return api.ErrArg
		}
		d.shorten(n)
		return api.OK
	}, nothing)
}

// Stage: P3.2. What was staged ahead makes way, so its sectors are free for b.
func (d *Disk) Stage(b []byte) api.Errno {
	return d.write(func() api.Errno {
		if sectors(len(b)) > d.room-sectors(len(d.image))-sectors(len(d.log)) {
			return api.ErrFull
		}
		d.stage, d.staged = slices.Clone(b), true
		return api.OK
	}, nothing)
}

// Commit: P3.2.
func (d *Disk) Commit() api.Errno {
	return d.write(func() api.Errno {
		if !d.staged {
			return api.ErrNone
		}
		d.image = d.stage
		d.unstage()
		d.log, d.sure = nil, 0
		return api.OK
	}, nothing)
}

// write does a writing call and counts it, whatever comes of it: P3.2, P3.3. If the power goes at this one, goes tells what is done of it still.
func (d *Disk) write(call func() api.Errno, goes func()) api.Errno {
	if d == nil {
		return api.ErrNone
	}
	if d.off {
		return api.ErrTorn
	}
	defer func() { d.left = max(d.left-1, never) }()
	if d.left == 0 {
		goes()
		d.off = true
		return api.ErrTorn
	}
	return call()
}

// nothing is done of a call at which the power goes, unless it is an Append.
func nothing() {}

// shorten leaves the log's first n bytes; none of them becomes sure by that.
func (d *Disk) shorten(n int) {
	d.log = d.log[:n]
	d.sure = min(d.sure, n)
}

func (d *Disk) unstage() { d.stage, d.staged = nil, false }
