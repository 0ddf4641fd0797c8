package clash_test

import (
	"crypto/sha256"
	"encoding/json"
	"os"
	"os/exec"
	"path/filepath"
	"strings"
	"testing"

	"beadroll/api"
	"beadroll/sha"
)

// weakSha stands in for the package sha in a second run of these tests: its digests are of
// two bits, so that clashes, which of SHA-256 nobody knows, are met in plenty.
const weakSha = `package sha

import (
	"crypto/sha256"

	"beadroll/api"
)

func Of(parts ...[]byte) api.Digest {
	var all []byte
	for _, p := range parts {
		all = append(all, p...)
	}
	return api.Digest{sha256.Sum256(all)[0] & 3}
}

func Hex(d api.Digest) string { return "" }

func Read(s string) (api.Digest, api.Errno) { return api.Digest{}, api.ErrBad }
`

// weak tells whether this is that second run.
var weak = sha.Of([]byte("a")) != sha256.Sum256([]byte("a"))

// digestOf is the digest, by the library.
func digestOf(b []byte) api.Digest {
	d := sha256.Sum256(b)
	if weak {
		return api.Digest{d[0] & 3}
	}
	return d
}

// overlay tells the go command to take another text for the package sha, and answers where
// that is told.
func overlay(t *testing.T) string {
	t.Helper()
	dir := t.TempDir()
	text := filepath.Join(dir, "sha.go")
	files, e := filepath.Glob("../sha/*.go")
	if e != nil || len(files) == 0 {
		t.Fatalf("no files of sha: %v", e)
	}
	instead := map[string]string{}
	for _, f := range files {
		if strings.HasSuffix(f, "_test.go") {
			continue
		}
		at, e := filepath.Abs(f)
		if e != nil {
			t.Fatal(e)
		}
		// The first one has the other text; more of them, if there are, are left out.
		instead[at] = text
		text = ""
	}
	told, e := json.Marshal(map[string]any{"Replace": instead})
	if e != nil {
		t.Fatal(e)
	}
	for name, b := range map[string][]byte{"sha.go": []byte(weakSha), "overlay.json": told} {
		if e := os.WriteFile(filepath.Join(dir, name), b, 0o600); e != nil {
			t.Fatal(e)
		}
	}
	return filepath.Join(dir, "overlay.json")
}

func TestAllWhereDigestsAreWeak(t *testing.T) {
	if weak {
		t.Skip("this is that run")
	}
	out, e := exec.Command("go", "test", "-v", "-count=1", "-overlay="+overlay(t), ".").CombinedOutput()
	// That the run was of weak digests is told by its skip of this test.
	if e != nil || !strings.Contains(string(out), "--- SKIP: TestAllWhereDigestsAreWeak") {
		t.Errorf("with weak digests: %v\n%s", e, out)
	}
}
