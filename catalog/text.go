package catalog

import (
	"maps"
	"slices"
	"strconv"
	"strings"

	"foreman/api"
	"foreman/sum"
)

// A version's record is the key of the version ahead of it, so that all of them are found from the last one on, and no two are alike; then its names, rising, a blank and a key behind each. A root is a check of the rest, a key, and a number in digits.
const (
	rootSectors = 2
	keySize     = 32
	checkSize   = 24
	noKey       = "there is no version ahead of it." // where a key stands: of version 0, which has no record
	nameEnd     = " "
	nought      = "\x00"
)

// root leads to the last version: its number, and its record's key.
type root struct {
	number int
	key    string
}

// sector is where a root lies: never over that of the version ahead of it.
func (r root) sector() int { return r.number % rootSectors }

// text is a root as it lies in its sector.
func (r root) text() string {
	s := r.key + strconv.Itoa(r.number)
	return sum.Sum(s)[:checkSize] + s
}

// parseRoot is the root that lies in a sector, that of version 0 where nothing was written; false: something else lies there.
func parseRoot(s string) (root, bool) {
	if strings.Trim(s, nought) == "" {
		return root{key: noKey}, true
	}
	if len(s) != api.Sector {
		return root{}, false
	}
	key, digits := s[checkSize:checkSize+keySize], strings.TrimRight(s[checkSize+keySize:], nought)
	number, err := strconv.Atoi(digits)
	if err != nil || number < 1 {
		return root{}, false
	}
	r := root{number: number, key: key}
	return r, r.text() == s[:checkSize+keySize]+digits
}

// versionText is a version's record.
func versionText(before string, names map[string]link) string {
	var text strings.Builder
	text.WriteString(before)
	for _, name := range slices.Sorted(maps.Keys(names)) {
		text.WriteString(name + nameEnd + names[name].key)
	}
	return text.String()
}

// parseVersion is the key ahead and the names that lie in a version's record; false: it is none.
func parseVersion(s string) (string, map[string]link, bool) {
	if len(s) < keySize {
		return "", nil, false
	}
	before, names := s[:keySize], map[string]link{}
	for rest := s[keySize:]; rest != ""; {
		name, behind, ended := strings.Cut(rest, nameEnd)
		if !ended || len(behind) < keySize {
			return "", nil, false
		}
		names[name], rest = link{behind[:keySize]}, behind[keySize:]
	}
	return before, names, true
}
