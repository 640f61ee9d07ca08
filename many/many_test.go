package many_test

import (
	"errors"
	"fmt"
	"math"
	"runtime"
	"slices"
	"strings"
	"testing"
	"time"

	"foreman/api"
	"foreman/desk"
	"foreman/many"
	"foreman/plain"
)

// texts are sessions, some of them long, no two alike.
func texts(count int) []string {
	var l []string
	for i := range count {
		s := fmt.Sprintf("sum %d\nload p id:int|%d|\n", i, i)
		for j := range i * 7 % 40 {
			s += fmt.Sprintf("check in p: id int; job a retry 1 = set p: id = id + %d; job b = union a, p; out p = b;\nrun %d\nback 1\n", j, j)
		}
		l = append(l, s+"fuse 1\nrun\ncrash 1\nget p 3")
	}
	return l
}

// wants are the answers of sessions, one by one.
func wants(texts []string) []string {
	var l []string
	for _, s := range texts {
		l = append(l, desk.Session(s))
	}
	return l
}

// Test121Workers: however many workers there are, and texts, each text has its session's answer, in order.
func Test121Workers(t *testing.T) {
	all := texts(50)
	want := wants(all)
	for workers := 1; workers <= 16; workers++ {
		for _, count := range []int{0, 1, 2, 15, 16, 17, 50} {
			got, err := many.All(all[:count], workers)
			if err != nil || !slices.Equal(got, want[:count]) {
				t.Errorf("%d texts by %d workers: %.300q, error %v", count, workers, got, err)
			}
		}
	}
	slices.Reverse(all)
	slices.Reverse(want)
	if got, err := many.All(all, 7); err != nil || !slices.Equal(got, want) {
		t.Errorf("from the last one on: %.300q, error %v", got, err)
	}
}

// What is wrong with a text is its own answer.
func Test121WrongTexts(t *testing.T) {
	l := []string{"", "x", strings.Repeat("x", api.MaxText+1), "\xff", "version", "version"}
	want := []string{"ok\n", "error 3\n", "error 4\n", "error 3\n", "version 0\n", "version 0\n"}
	for workers := 1; workers <= 16; workers++ {
		if got, err := many.All(l, workers); err != nil || !slices.Equal(got, want) {
			t.Errorf("%d workers: %q, error %v", workers, got, err)
		}
	}
}

// Test121Limit: more than 50 texts, or workers that are not from 1 to 16.
func Test121Limit(t *testing.T) {
	for _, count := range []int{0, 1, 49, 50, 51, 1000} {
		for _, workers := range []int{math.MinInt, -1, 0, 1, 2, 15, 16, 17, 50, math.MaxInt} {
			got, err := many.All(make([]string, count), workers)
			if count <= 50 && 1 <= workers && workers <= 16 {
				if err != nil || len(got) != count {
					t.Errorf("%d texts, %d workers: %q, error %v", count, workers, got, err)
				}
				continue
			}
			var a *api.At
			if e, _ := plain.Place(err); e != api.ErrLimit || errors.As(err, &a) || got != nil {
				t.Errorf("%d texts, %d workers: %q, error %v", count, workers, got, err)
			}
		}
	}
	if got, err := many.All(nil, 3); err != nil || len(got) != 0 {
		t.Errorf("no texts: %q, error %v", got, err)
	}
}

// TestP4: what is handed in stays as it is, also behind its length, and what comes out is nobody else's.
func TestP4(t *testing.T) {
	l := texts(9)
	was, part := slices.Clone(l), l[:5]
	one, _ := many.All(part, 4)
	two, _ := many.All(part, 4)
	if !slices.Equal(l, was) {
		t.Errorf("what was handed in is %.300q", l)
	}
	for i := range one {
		one[i] = "x"
	}
	for i := range part {
		part[i] = "y"
	}
	if !slices.Equal(two, wants(was[:5])) {
		t.Errorf("what came out is %.300q", two)
	}
}

// No worker is there any more when the call answers.
func TestWorkersAreJoined(t *testing.T) {
	was := runtime.NumGoroutine()
	for range 50 {
		if _, err := many.All(texts(3), 16); err != nil {
			t.Fatal(err)
		}
		_, _ = many.All(texts(3), 17)
	}
	for range 100 { // one that said that it is done may take a moment to end
		if runtime.NumGoroutine() <= was {
			return
		}
		time.Sleep(10 * time.Millisecond)
	}
	t.Errorf("%d goroutines behind %d", runtime.NumGoroutine(), was)
}

// Calls at the same time are in nobody's way.
func Test121AtTheSameTime(t *testing.T) {
	l := texts(12)
	want := wants(l)
	told := make(chan []string)
	for workers := range 8 {
		go func() {
			got, _ := many.All(l, workers+1)
			told <- got
		}()
	}
	for range 8 {
		if got := <-told; !slices.Equal(got, want) {
			t.Errorf("%.300q", got)
		}
	}
}
