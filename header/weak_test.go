package header_test

import (
	"bytes"
	"crypto/sha256"
	"encoding/json"
	"os"
	"os/exec"
	"path/filepath"
	"strings"
	"testing"

	"beadroll/api"
	"beadroll/header"
	"beadroll/sha"
	"beadroll/tag"
)

// weakSha stands in for the package sha in a second run of the test of P14.4 below: its
// digests are of two bits, so that one follows many, which of SHA-256 nobody can show.
const weakSha = `package sha

import (
	"crypto/sha256"

	"beadroll/api"
)

func Of(parts ...[]byte) api.Digest {
	var all []byte
	for _, p := range parts {
		all = append(all, p...)
	}
	return api.Digest{sha256.Sum256(all)[0] & 3}
}

func Hex(d api.Digest) string { return "" }

func Read(s string) (api.Digest, api.Errno) { return api.Digest{}, api.ErrBad }
`

// weakly is what the second run tells, so that it is known to be one of weak digests.
const weakly = "one follows many"

// overlay tells the go command to take another text for the package sha, and answers where
// that is told.
func overlay(t *testing.T) string {
	t.Helper()
	dir := t.TempDir()
	text := filepath.Join(dir, "sha.go")
	files, e := filepath.Glob("../sha/*.go")
	if e != nil || len(files) == 0 {
		t.Fatalf("no files of sha: %v", e)
	}
	instead := map[string]string{}
	for _, f := range files {
		if strings.HasSuffix(f, "_test.go") {
			continue
		}
		at, e := filepath.Abs(f)
		if e != nil {
			t.Fatal(e)
		}
		// The first one has the other text; more of them, if there are, are left out.
		instead[at] = text
		text = ""
	}
	told, e := json.Marshal(map[string]any{"Replace": instead})
	if e != nil {
		t.Fatal(e)
	}
	for name, b := range map[string][]byte{"sha.go": []byte(weakSha), "overlay.json": told} {
		if e := os.WriteFile(filepath.Join(dir, name), b, 0o600); e != nil {
			t.Fatal(e)
		}
	}
	return filepath.Join(dir, "overlay.json")
}

func TestWhereDigestsAreWeak(t *testing.T) {
	out, e := exec.Command("go", "test", "-v", "-count=1", "-run=^TestOneThatFollowsTwo$", "-overlay="+overlay(t), ".").CombinedOutput()
	if e != nil || !strings.Contains(string(out), weakly) {
		t.Errorf("with weak digests: %v\n%s", e, out)
	}
}

// One that follows two unlike headers shows two unlike texts of one digest; of SHA-256 none
// of these does, of weak digests many do.
func TestOneThatFollowsTwo(t *testing.T) {
	isWeak := sha.Of([]byte("a")) != sha256.Sum256([]byte("a"))
	var all []api.Header
	for i := range 64 {
		all = append(all, api.Header{Height: 7, Parent: hashed(i % 4), State: hashed(i / 4 % 4), Rows: hashed(i), Many: i % 3})
	}
	two := 0
	for _, a := range all {
		hash, _ := header.Hash(a)
		h := api.Header{Height: 8, Parent: hash}
		wantFollows(t, "the next one", true, h, a)
		for _, b := range all {
			if a == b || !header.Follows(h, b) {
				continue
			}
			two++
			x, y := text(t, a), text(t, b)
			if bytes.Equal(x, y) || sha.Of(x) != sha.Of(y) || sha.Of(x) != hash {
				t.Errorf("%v follows %v and %v, but their texts %x and %x show no clash", h, a, b, x, y)
			}
		}
	}
	if isWeak && two > 0 {
		t.Log(weakly)
	}
	if isWeak != (two > 0) {
		t.Errorf("weak digests: %t, and %d times one follows two", isWeak, two)
	}
}

// text is what is digested of a header.
func text(t *testing.T, h api.Header) []byte {
	t.Helper()
	b, e := header.Bytes(h)
	if e != api.OK {
		t.Fatalf("Bytes of %v: error %d", h, e)
	}
	return tag.Bytes(6, b)
}
