package disk_test

import (
	"errors"
	"strings"
	"testing"

	"foreman/api"
	"foreman/disk"
	"foreman/plain"
)

// small is how many sectors most of these disks have.
const small = 8

// made is a disk of so many sectors.
func made(t *testing.T, sectors int) *disk.Disk {
	t.Helper()
	d, err := disk.New(sectors)
	if err != nil || d == nil {
		t.Fatalf("New of %d: %v, error %v", sectors, d, err)
	}
	return d
}

// tells asks for an error, without a place.
func tells(t *testing.T, what string, err error, want api.Errno) {
	t.Helper()
	if e, at := plain.Place(err); e != want || at != -1 {
		t.Errorf("%s: error %d at %d, want %d", what, e, at, want)
	}
	var a *api.At
	if errors.As(err, &a) {
		t.Errorf("%s: a place in %v", what, err)
	}
}

// writes writes to a sector, and asks that it is done.
func writes(t *testing.T, d *disk.Disk, at int, s string) {
	t.Helper()
	tells(t, "Write", d.Write(at, s), api.OK)
}

// syncs makes what was written sure, and asks that it is done.
func syncs(t *testing.T, d *disk.Disk) {
	t.Helper()
	tells(t, "Sync", d.Sync(), api.OK)
}

// full is a whole sector: bytes, and 0 behind them.
func full(s string) string { return s + strings.Repeat("\x00", api.Sector-len(s)) }

// holds asks that the first sectors are these, and all others 0.
func holds(t *testing.T, d *disk.Disk, want ...string) {
	t.Helper()
	for at := range d.Size() {
		s := ""
		if at < len(want) {
			s = want[at]
		}
		got, err := d.Read(at)
		if err != nil || got != full(s) {
			t.Errorf("sector %d is %q, error %v, want %q", at, got, err, s)
		}
	}
}

// drawn gives numbers that look drawn, the same each time.
func drawn(seed uint64) func(most int) int {
	return func(most int) int {
		seed = seed*6364136223846793005 + 1442695040888963407
		return int((seed >> 33) % uint64(most))
	}
}
