package disk

// Stop: P3.3.
func (d *Disk) Stop(n int) {
	if d == nil {
		return
	}
	d.left = max(n, never)
}

// Off: P3.3.
func (d *Disk) Off() bool { return d == nil || d.off }

// Crash: P3.3.
func (d *Disk) Crash(keep int) {
	if d == nil {
		return
	}
	waiting := len(d.log) - d.sure
	d.sure += min(max(keep, 0), waiting)
	d.shorten(d.sure)
	d.unstage()
	d.left = never
	d.off = false
}
