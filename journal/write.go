package journal

import (
	"slices"

	"lamella/api"
	"lamella/octet"
)

// Add: P4.4.
func (j *Journal) Add(record []byte) api.Errno {
	if e := j.ready(); e != api.OK {
		return e
	}
	size, e := j.lay(record, j.disk.Append)
	if e != api.OK {
		return e
	}
	j.records = append(j.records, slices.Clone(record))
	j.size += size
	return api.OK
}

// Sync: P4.4.
func (j *Journal) Sync() api.Errno {
	if e := j.ready(); e != api.OK {
		return e
	}
	return j.call(j.disk.Sync)
}

// Save: P4.4.
func (j *Journal) Save(image []byte) api.Errno {
	if e := j.ready(); e != api.OK {
		return e
	}
	if _, e := j.lay(image, j.disk.Stage); e != api.OK {
		return e
	}
	if e := j.call(j.disk.Commit); e != api.OK {
		return e
	}
	j.image, j.records, j.size = slices.Clone(image), nil, 0
	return api.OK
}

// Down: P4.4.
func (j *Journal) Down() bool { return j == nil || j.down }

// ready is the error that a writing call has ahead of all others.
func (j *Journal) ready() api.Errno {
	if j == nil {
		return api.ErrNone
	}
	if j.down {
		return api.ErrDown
	}
	return api.OK
}

// lay gives the frame of b to one of the disk's calls, and answers how many bytes it has.
func (j *Journal) lay(b []byte, write func([]byte) api.Errno) (int, api.Errno) {
	frame, e := octet.Frame(b)
	if e != api.OK {
		return 0, e
	}
	return len(frame), j.call(func() api.Errno { return write(frame) })
}

// call does a writing call of the disk. All of them come through here, so that none at which the power goes is missed.
func (j *Journal) call(write func() api.Errno) api.Errno {
	e := write()
	if e == api.ErrTorn {
		j.down = true
	}
	return e
}
