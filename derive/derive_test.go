package derive

import (
	"math"
	"math/rand/v2"
	"slices"
	"strings"
	"testing"

	"astragal/api"
	"astragal/gens"
	"astragal/load"
	"astragal/sip"
)

func key(r *rand.Rand) api.U128 { return api.U128{Hi: r.Uint64(), Lo: r.Uint64()} }

const letters = "abcdefghijklmnopqrstuvwxyz0123456789-_"

func label(r *rand.Rand) string {
	b := make([]byte, 1+r.IntN(8))
	for i := range b {
		b[i] = letters[r.IntN(len(letters))]
	}
	return string(b)
}

// P45.1
func TestLabel(t *testing.T) {
	for c := range 256 {
		want := api.ErrForm
		if strings.IndexByte(letters, byte(c)) >= 0 {
			want = api.OK
		}
		for _, s := range []string{string([]byte{byte(c)}), "a" + string([]byte{byte(c)}) + "z"} {
			if e := Label(s); e != want {
				t.Errorf("%q %v", s, e)
			}
		}
	}
	for s, want := range map[string]api.Errno{
		"": api.ErrShort, strings.Repeat("a", 64): api.OK, strings.Repeat("a", 65): api.ErrLong, strings.Repeat("A", 65): api.ErrLong, strings.Repeat("A", 64): api.ErrForm, "é": api.ErrForm,
	} {
		if e := Label(s); e != want {
			t.Errorf("%q %v", s, e)
		}
	}
}

// P45.1
func TestChildAndNumber(t *testing.T) {
	r := rand.New(rand.NewPCG(45, 1))
	for range 300 {
		k, s, n := key(r), label(r), r.Uint64()>>r.IntN(64)
		if got, e := Child(k, s); e != api.OK || got != sip.One(api.Sip128, k, []byte(s+"l")) {
			t.Fatal("Child", k, s, got, e)
		}
		if got := Number(k, n); got != sip.One(api.Sip128, k, append(load.Put64(nil, n), 'n')) {
			t.Fatal("Number", k, n, got)
		}
	}
	for s, want := range map[string]api.Errno{"": api.ErrShort, strings.Repeat("a", 65): api.ErrLong, "A": api.ErrForm, "a/b": api.ErrForm} {
		if got, e := Child(key(r), s); got != (api.U128{}) || e != want {
			t.Errorf("%q %v %v", s, got, e)
		}
	}
}

// P45.2
func TestParts(t *testing.T) {
	many := strings.Repeat("a/", 15) + "a"
	for path, want := range map[string][]string{"": nil, "a": {"a"}, "a/b-1/_": {"a", "b-1", "_"}, many: slices.Repeat([]string{"a"}, 16)} {
		if got, e := Parts(path); e != api.OK || !slices.Equal(got, want) {
			t.Errorf("%q %q %v", path, got, e)
		}
	}
	for path, want := range map[string]api.Errno{
		"/": api.ErrShort, "a/": api.ErrShort, "/a": api.ErrShort, "a//b": api.ErrShort, "A//": api.ErrForm, "a/A/": api.ErrForm,
		"a/" + strings.Repeat("b", 65) + "/A": api.ErrLong, "a b": api.ErrForm,
		many + "/a": api.ErrOver, many + "/": api.ErrShort, many + "/a/a/A": api.ErrForm, many + "/" + strings.Repeat("b", 65): api.ErrLong,
	} {
		if got, e := Parts(path); got != nil || e != want {
			t.Errorf("%q %q %v", path, got, e)
		}
		if got, e := Path(api.U128{Lo: 1}, path); got != (api.U128{}) || e != want {
			t.Errorf("Path %q %v %v", path, got, e)
		}
	}
}

// P45.2, P45.4
func TestPathAndJoin(t *testing.T) {
	r := rand.New(rand.NewPCG(45, 2))
	for range 300 {
		k := key(r)
		var labels []string
		want := k
		for range r.IntN(17) {
			labels = append(labels, label(r))
			want, _ = Child(want, labels[len(labels)-1])
		}
		if got, e := Path(k, strings.Join(labels, "/")); e != api.OK || got != want {
			t.Fatal("Path", k, labels, got, e)
		}
		for i := range len(labels) + 1 {
			a, b := strings.Join(labels[:i], "/"), strings.Join(labels[i:], "/")
			if Join(a, b) != strings.Join(labels, "/") {
				t.Fatal("Join", a, b)
			}
			first, _ := Path(k, a)
			if got, e := Path(first, b); e != api.OK || got != want {
				t.Fatal("Path of Join", a, b)
			}
		}
	}
	if Join("", "") != "" || Join("a", "") != "a" || Join("", "/") != "/" || Join("A/", "/b") != "A///b" {
		t.Error("Join")
	}
	if got, e := Path(api.U128{Hi: 1, Lo: 2}, ""); got != (api.U128{Hi: 1, Lo: 2}) || e != api.OK {
		t.Error("the chapter's example", got, e)
	}
}

// P45.3
func TestSource(t *testing.T) {
	r := rand.New(rand.NewPCG(45, 3))
	for kind := 1; kind <= api.LastGen; kind++ {
		k := key(r)
		want, _ := gens.New(kind, k.Lo^k.Hi)
		if got, e := Source(k, kind); got != want || e != api.OK {
			t.Error(kind, got, e)
		}
	}
	for _, kind := range []int{0, -1, 9, math.MinInt, math.MaxInt} {
		if got, e := Source(key(r), kind); got != (api.State{}) || e != api.ErrKind {
			t.Error(kind, got, e)
		}
	}
}

// P45.2 with P5: a range may be left, and repeated.
func TestPartsOneByOne(t *testing.T) {
	parts := each("a/b/c")
	for range 2 {
		for part := range parts {
			if part == "b" {
				break
			}
		}
	}
	if got := slices.Collect(parts); !slices.Equal(got, []string{"a", "b", "c"}) {
		t.Error(got)
	}
}
