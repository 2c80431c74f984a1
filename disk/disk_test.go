package disk

import (
	"errors"
	"math"
	"slices"
	"testing"

	"berth/api"
)

func wantDone(t *testing.T, what string, d *Disk, want []api.Op) {
	t.Helper()
	if got := d.Done(); !slices.Equal(got, want) {
		t.Errorf("P8: %s: done are %v, want %v", what, got, want)
	}
}

func TestReplaceIsSafeInItsOrder(t *testing.T) {
	var d Disk
	wantDone(t, "at first", &d, nil)
	if err := d.Replace("f", "bytes"); err != nil {
		t.Fatalf("P8: Replace: %v", err)
	}
	wantDone(t, "one Replace", &d, []api.Op{
		{Kind: api.Write, Name: "f.new", Bytes: "bytes"},
		{Kind: api.Sync, Name: "f.new"},
		{Kind: api.Rename, Name: "f.new", To: "f"},
		{Kind: api.SyncDir},
	})
}

func TestReplaceAlsoOfNothing(t *testing.T) {
	var d Disk
	for _, bytes := range []string{"", "\x00\xff"} {
		if err := d.Replace("", bytes); err != nil {
			t.Errorf("P8: Replace by %q: %v", bytes, err)
		}
	}
	wantDone(t, "two", &d, slices.Concat(replacing("", ""), replacing("", "\x00\xff")))
}

func TestFailAtEachPlace(t *testing.T) {
	ops := replacing("f", "x")
	for n := range 3 * len(ops) {
		var d Disk
		d.FailAt(n)
		var want []api.Op
		for call := range 3 {
			err := d.Replace("f", "x")
			if call == n/len(ops) {
				wantFailed(t, err)
				want = append(want, ops[:n%len(ops)]...)
			} else {
				if err != nil {
					t.Errorf("P8: FailAt(%d), call %d: %v", n, call, err)
				}
				want = append(want, ops...)
			}
			wantDone(t, "with one that fails", &d, want)
		}
	}
}

func wantFailed(t *testing.T, err error) {
	t.Helper()
	var file *FileError
	if !errors.Is(err, ErrFailed) || !errors.As(err, &file) || file.Name != "f" {
		t.Errorf("P8: the error is %v, want one of file f that comes from ErrFailed", err)
	}
}

func TestFailAtOnceMore(t *testing.T) {
	var d Disk
	for _, n := range []int{-1, math.MinInt, math.MaxInt} {
		d.FailAt(0)
		d.FailAt(n)
		for range 3 {
			if err := d.Replace("f", "x"); err != nil {
				t.Errorf("P8: FailAt(%d): %v", n, err)
			}
		}
	}
	d.FailAt(5)
	d.FailAt(0)
	wantFailed(t, d.Replace("f", "x"))
	d.FailAt(0)
	wantFailed(t, d.Replace("f", "x"))
}

func TestErrorTellsItsFile(t *testing.T) {
	err := &FileError{Name: "a\nb", Err: ErrFailed}
	if want := `file "a\nb": the disk operation failed`; err.Error() != want {
		t.Errorf("the error says %s, want %s", err.Error(), want)
	}
}

func TestDoneIsNewMemory(t *testing.T) {
	var d Disk
	d.Replace("f", "x")
	first := d.Done()
	whole := first[:cap(first)]
	for i := range whole {
		whole[i] = api.Op{Kind: 99}
	}
	wantDone(t, "the answer written over", &d, replacing("f", "x"))
	d.Replace("f", "y")
	wantDone(t, "and another", &d, slices.Concat(replacing("f", "x"), replacing("f", "y")))
}
