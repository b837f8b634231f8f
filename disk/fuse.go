package disk

// fuse counts the operations of a disk, and stops it at one of them.
type fuse struct {
	ops int
	// How many operations are left, the one at which the disk stops included;
	// not that one's number, which may be greater than any int. It does not stop
	// if this is less than 1.
	left int
	dead bool
}

// set determines that the disk stops at operation number n from now on.
func (f *fuse) set(n int) { f.left = n }

// operate counts an operation, and reports whether it is performed.
func (f *fuse) operate() bool {
	f.ops++
	if f.left > 0 {
		f.left--
		f.dead = f.left == 0
	}
	return !f.dead
}

// renew ends the stop and removes what was set; the count goes on.
func (f *fuse) renew() { *f = fuse{ops: f.ops} }
