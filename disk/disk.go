// Package disk: the operations that were done on a disk, and the one that is to
// fail.
package disk

import (
	"errors"
	"slices"
	"strconv"

	"berth/api"
)

// ErrFailed is what each error of a disk comes from: an operation was not done.
var ErrFailed = errors.New("the disk operation failed")

// FileError tells for which file it was that something failed.
type FileError struct {
	Name string
	Err  error
}

func (e *FileError) Error() string {
	return "file " + strconv.Quote(e.Name) + ": " + e.Err.Error()
}

func (e *FileError) Unwrap() error { return e.Err }

// Disk keeps what was done on it. The zero Disk is one on which nothing was done
// and nothing fails.
type Disk struct {
	done    []api.Op
	failing bool
	ahead   int // operations ahead of the one that fails, if one does
}

// FailAt lets the operation fail that comes behind n more; none, if n is below 0.
func (d *Disk) FailAt(n int) {
	d.failing = n >= 0
	d.ahead = n
}

// Done lists the operations that were done, in their order.
func (d *Disk) Done() []api.Op {
	return slices.Clone(d.done)
}

// do does one operation, unless it is the one that fails.
func (d *Disk) do(op api.Op) error {
	if d.failing && d.ahead == 0 {
		d.failing = false
		return ErrFailed
	}
	if d.failing {
		d.ahead--
	}
	d.done = append(d.done, op)
	return nil
}

// Replace gives a file other bytes, so that whatever is lost it has the old ones
// or the new ones, and the new ones once Replace has ended without an error.
func (d *Disk) Replace(name, bytes string) error {
	for _, op := range replacing(name, bytes) {
		if err := d.do(op); err != nil {
			return &FileError{Name: name, Err: err}
		}
	}
	return nil
}

// replacing lists the operations of Replace: the new bytes go by another name
// until they are safe, as a Write takes the old ones away at once. The Sync stands
// ahead of the Rename because a Rename may last where the bytes of a Write do not;
// the SyncDir ends it because till then the Rename may be lost.
func replacing(name, bytes string) []api.Op {
	fresh := name + ".new"
	return []api.Op{
		{Kind: api.Write, Name: fresh, Bytes: bytes},
		{Kind: api.Sync, Name: fresh},
		{Kind: api.Rename, Name: fresh, To: name},
		{Kind: api.SyncDir},
	}
}
