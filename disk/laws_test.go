package disk_test

import (
	"fmt"
	"strings"
	"testing"

	"foreman/api"
	"foreman/disk"
)

// step is one thing that was done to a disk: a write, a sync, or a crash.
type step struct {
	kind  int
	at    int
	text  string
	keeps []bool
}

const (
	wrote = iota
	synced
	crashed
)

// survives says whether the write that is a step's is there yet at the end: the first sync or crash behind it says so.
func survives(steps []step, which int) bool {
	place := 0
	for i := which - 1; i >= 0 && steps[i].kind == wrote; i-- {
		place++
	}
	for _, s := range steps[which+1:] {
		switch s.kind {
		case synced:
			return true
		case crashed:
			return place < len(s.keeps) && s.keeps[place]
		}
	}
	return true
}

// expected is what is in a sector behind these steps.
func expected(steps []step, at int) string {
	text := ""
	for i, s := range steps {
		if s.kind == wrote && s.at == at && survives(steps, i) {
			text = s.text
		}
	}
	return full(text)
}

// tried is what a disk is asked for by a drawn number, and what it must tell while its fuse is so (-1: none).
func tried(d *disk.Disk, n func(int) int, fuse int) (did step, got error, want api.Errno) {
	did = step{kind: []int{wrote, wrote, wrote, wrote, synced, crashed}[n(6)]}
	switch did.kind {
	case wrote:
		did.at, did.text = n(d.Size()+4)-2, strings.Repeat(fmt.Sprint(n(10)), []int{n(4), api.Sector - 1 + n(3)}[n(2)])
		got = d.Write(did.at, did.text)
		switch {
		case did.at < 0 || did.at >= d.Size():
			return did, got, api.ErrRange
		case len(did.text) > api.Sector:
			return did, got, api.ErrLimit
		}
	case synced:
		got = d.Sync()
	case crashed:
		for range n(12) {
			did.keeps = append(did.keeps, n(2) == 0)
		}
		d.Crash(did.keeps)
		return did, nil, api.OK
	}
	if fuse == 0 {
		return did, got, api.ErrDevice
	}
	return did, got, api.OK
}

// burnt is a fuse behind what was done.
func burnt(fuse int, did step, told api.Errno) int {
	switch {
	case did.kind == crashed:
		return -1
	case told == api.OK && fuse > 0:
		return fuse - 1
	}
	return fuse
}

// Test71Drawn: behind any steps each sector is what the steps tell, looked at from their end.
func Test71Drawn(t *testing.T) {
	n := drawn(71)
	count := map[api.Errno]int{}
	for range 300 {
		d, fuse := made(t, small+n(3)), -1
		var steps []step
		for range 60 {
			if n(8) == 0 {
				fuse = n(10) - 1
				d.Fuse(fuse)
			}
			did, got, want := tried(d, n, fuse)
			tells(t, fmt.Sprint(did), got, want)
			count[want]++
			fuse = burnt(fuse, did, want)
			if want == api.OK {
				steps = append(steps, did)
			}
			for at := range d.Size() {
				if s, err := d.Read(at); err != nil || s != expected(steps, at) {
					t.Fatalf("behind %v sector %d is %q, error %v, want %q", steps, at, s, err, expected(steps, at))
				}
			}
		}
	}
	for _, e := range []api.Errno{api.OK, api.ErrRange, api.ErrLimit, api.ErrDevice} {
		if count[e] < 200 {
			t.Errorf("error %d was asked for %d times", e, count[e])
		}
	}
}

// What is sure is sure: whatever is done behind a Sync, but for other writes to a sector, it stays as it was.
func Test71WhatIsSureIsSure(t *testing.T) {
	n := drawn(72)
	for range 300 {
		d := made(t, small)
		for range 20 {
			writes(t, d, n(small), fmt.Sprint(n(1000)))
		}
		syncs(t, d)
		var want []string
		for at := range small {
			s, _ := d.Read(at)
			want = append(want, s)
		}
		other := n(small)
		for range 40 {
			switch n(4) {
			case 0:
				d.Crash([]bool{n(2) == 0, n(2) == 0, true})
			case 1:
				d.Fuse(n(4) - 1)
			case 2:
				d.Sync()
			default:
				d.Write(other, fmt.Sprint(n(1000)))
			}
		}
		want[other], _ = d.Read(other)
		holds(t, d, want...)
	}
}

// As much as a disk has, written twice without a Sync, is read as it was written last, and lost by a crash.
func Test71WholeDisk(t *testing.T) {
	d := made(t, api.MaxDisk)
	for _, turn := range []string{"a", "b"} {
		for at := range api.MaxDisk {
			writes(t, d, at, fmt.Sprint(turn, at))
		}
	}
	for _, at := range []int{0, 1, 1000, api.MaxDisk - 1} {
		if s, err := d.Read(at); err != nil || s != full(fmt.Sprint("b", at)) {
			t.Errorf("sector %d is %q, error %v", at, s, err)
		}
	}
	keeps := make([]bool, api.MaxDisk)
	keeps[1000] = true
	d.Crash(keeps)
	for _, at := range []int{0, 1, 999, 1001, api.MaxDisk - 1} {
		if s, err := d.Read(at); err != nil || s != full("") {
			t.Errorf("behind the crash sector %d is %q, error %v", at, s, err)
		}
	}
	if s, err := d.Read(1000); err != nil || s != full("a1000") {
		t.Errorf("behind the crash sector 1000 is %q, error %v", s, err)
	}
}
