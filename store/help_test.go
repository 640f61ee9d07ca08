package store_test

import (
	"errors"
	"slices"
	"strings"
	"testing"

	"foreman/api"
	"foreman/disk"
	"foreman/plain"
	"foreman/store"
	"foreman/sum"
)

// made is a disk of so many sectors.
func made(t *testing.T, sectors int) *disk.Disk {
	t.Helper()
	d, err := disk.New(sectors)
	if err != nil {
		t.Fatalf("New of %d: %v", sectors, err)
	}
	return d
}

// opened is the store of a disk.
func opened(t *testing.T, d *disk.Disk) *store.Store {
	t.Helper()
	x, err := store.Open(d)
	if err != nil || x == nil {
		t.Fatalf("Open: %v, error %v", x, err)
	}
	return x
}

// fresh is a disk of so many sectors, and its store.
func fresh(t *testing.T, sectors int) (*disk.Disk, *store.Store) {
	t.Helper()
	d := made(t, sectors)
	return d, opened(t, d)
}

// crashed is the store of a disk behind a crash that keeps these writes.
func crashed(t *testing.T, d *disk.Disk, keeps ...bool) *store.Store {
	t.Helper()
	d.Crash(keeps)
	return opened(t, d)
}

// tells asks for an error, without a place.
func tells(t *testing.T, what string, err error, want api.Errno) {
	t.Helper()
	if e, at := plain.Place(err); e != want || at != -1 {
		t.Errorf("%s: error %d at %d, want %d", what, e, at, want)
	}
	var a *api.At
	if errors.As(err, &a) {
		t.Errorf("%s: a place in %v", what, err)
	}
}

// puts puts records, and asks that it is done.
func puts(t *testing.T, x *store.Store, texts ...string) {
	t.Helper()
	for _, s := range texts {
		key, err := x.Put(s)
		if err != nil || key != sum.Sum(s) {
			t.Fatalf("Put of %.40q, %d bytes: %x, error %v", s, len(s), key, err)
		}
	}
}

// fails puts a record, and asks that it tells an error, and nothing else.
func fails(t *testing.T, x *store.Store, s string, want api.Errno) {
	t.Helper()
	key, err := x.Put(s)
	tells(t, "Put", err, want)
	if key != "" || err == nil {
		t.Fatalf("Put of %.40q, %d bytes: %x, error %v", s, len(s), key, err)
	}
}

// lacks asks that a record is not there.
func lacks(t *testing.T, x *store.Store, s string) {
	t.Helper()
	got, err := x.Get(sum.Sum(s))
	tells(t, "Get", err, api.ErrMissing)
	if got != "" || slices.Contains(x.Keys(), sum.Sum(s)) {
		t.Errorf("%.40q is there", s)
	}
}

// texts are all records of a store, in its order, each once.
func texts(t *testing.T, x *store.Store) []string {
	t.Helper()
	var l []string
	keys := x.Keys()
	for i, key := range keys {
		s, err := x.Get(key)
		if err != nil || sum.Sum(s) != key || len(l) < 100 && slices.Contains(keys[:i], key) {
			t.Fatalf("Get of %x: %.40q, error %v", key, s, err)
		}
		l = append(l, s)
	}
	return l
}

// has asks that just these records are there, in this order.
func has(t *testing.T, x *store.Store, want ...string) {
	t.Helper()
	if got := texts(t, x); !slices.Equal(got, want) {
		t.Fatalf("there are %.900q, want %.900q", got, want)
	}
}

// bits are the lowest bits of a number, as many as are told.
func bits(n, many int) []bool {
	var l []bool
	for i := range many {
		l = append(l, n>>i&1 == 1)
	}
	return l
}

// weight is what records take at most of half a disk's bytes.
func weight(texts ...string) int {
	n := 0
	for _, s := range texts {
		n += len(s) + 200
	}
	return n
}

// half is half of a disk's bytes.
func half(d *disk.Disk) int { return d.Size() * api.Sector / 2 }

// text is one of so many bytes, another one for each number (below 256, if it is of one byte).
func text(number, size int) string {
	s := string([]byte{byte(number), byte(number >> 8)}) + sum.Sum(string(rune(number)))
	return strings.Repeat(s, size/len(s)+1)[:size]
}

// drawn gives numbers that look drawn, the same each time.
func drawn(seed uint64) func(most int) int {
	return func(most int) int {
		seed = seed*6364136223846793005 + 1442695040888963407
		return int((seed >> 33) % uint64(most))
	}
}
