// Package rules has tests alone: that the program keeps to its language, as far as its text shows it.
package rules

import (
	"crypto/sha256"
	"encoding/hex"
	"io/fs"
	"os"
	"path/filepath"
	"strings"
	"testing"
)

const root = ".."

// passedOver are folders that are no packages of the program.
func passedOver(name string) bool {
	return name == "sharedtests" || name != root && strings.HasPrefix(name, ".")
}

// program reads all packages: by their paths their files, without tests.
func program(t *testing.T) map[string]map[string]string {
	t.Helper()
	texts := map[string]map[string]string{}
	err := filepath.WalkDir(root, func(where string, d fs.DirEntry, err error) error {
		if err != nil {
			return err
		}
		if d.IsDir() {
			if passedOver(d.Name()) {
				return filepath.SkipDir
			}
			return nil
		}
		if !strings.HasSuffix(where, ".go") || strings.HasSuffix(where, "_test.go") {
			return nil
		}
		text, err := os.ReadFile(where)
		if err != nil {
			return err
		}
		folder, _ := filepath.Rel(root, filepath.Dir(where))
		pack := module + "/" + filepath.ToSlash(folder)
		if texts[pack] == nil {
			texts[pack] = map[string]string{}
		}
		texts[pack][d.Name()] = string(text)
		return nil
	})
	if err != nil {
		t.Fatal(err)
	}
	return texts
}

func TestProgramKeepsToItsLanguage(t *testing.T) {
	texts := program(t)
	for _, l := range append(layers, "api", "plain") {
		if len(texts[module+"/"+l]) == 0 {
			t.Errorf("there is no package %s", l)
		}
	}
	faults, err := faultsOf(texts)
	if err != nil {
		t.Fatal(err)
	}
	for _, f := range faults {
		t.Errorf("rule %s", f)
	}
}

// Beside the Go files of a package lies nothing, and its folder has a name that may be.
func TestFoldersHaveGoFilesAlone(t *testing.T) {
	err := filepath.WalkDir(root, func(where string, d fs.DirEntry, err error) error {
		if err != nil {
			return err
		}
		folder := filepath.Dir(where)
		switch {
		case d.IsDir() && passedOver(d.Name()):
			return filepath.SkipDir
		case d.IsDir() && where != root && (d.Name() == "form" || d.Name() == "try" || strings.HasPrefix(d.Name(), module)):
			t.Errorf("%s: no package may be called so", where)
		case !d.IsDir() && folder != root && !strings.HasSuffix(where, ".go"):
			t.Errorf("%s: no Go file", where)
		}
		return nil
	})
	if err != nil {
		t.Fatal(err)
	}
}

// Packages api and plain stay as they were given, to the byte.
func TestGivenPackagesStay(t *testing.T) {
	for name, want := range map[string]string{
		"api":   "877a35a9c11784b9b74dc86382f118d149ba653fe1637f9c89f5ab2f74f44406",
		"plain": "2cb33699fa513d89df70353e5041877b471236f41de974af3291e570ff5fbf1b",
	} {
		l, err := os.ReadDir(filepath.Join(root, name))
		if err != nil {
			t.Fatal(err)
		}
		if len(l) != 1 || l[0].Name() != name+".go" {
			t.Errorf("%s: something is laid beside its file", name)
			continue
		}
		text, err := os.ReadFile(filepath.Join(root, name, name+".go"))
		if err != nil {
			t.Fatal(err)
		}
		if got := sha256.Sum256(text); hex.EncodeToString(got[:]) != want {
			t.Errorf("%s: another text than the one that was given", name)
		}
	}
}
