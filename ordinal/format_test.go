package ordinal

import (
	"slices"
	"strings"
	"testing"

	"lispprover/api"
)

// P3.6

func TestFormat(t *testing.T) {
	for _, c := range []struct {
		o    api.Object
		want string
	}{
		{fin(0), "0"}, {fin(1), "1"}, {fin(207), "207"}, {nines(100), strings.Repeat("9", 100)},
		{ww(1, 1, 3), "w + 3"}, // the example of the chapter
		{omega(), "w"}, {ww(1, 2, 0), "w*2"}, {ww(1, 2, 1), "w*2 + 1"}, {ww(1, 11, 10), "w*11 + 10"},
		{ww(2, 1, 0), "w^2"}, {ww(10, 1, 0), "w^10"}, {ww(2, 3, 0), "w^2*3"}, {ww(2, 3, 5), "w^2*3 + 5"}, {w(fin(2), fin(1), omega()), "w^2 + w"}, {w(fin(7), fin(8), w(fin(2), fin(1), ww(1, 4, 1))), "w^7*8 + w^2 + w*4 + 1"},
		{w(nines(100), nines(100), nines(100)), "w^" + nines(100).Num + "*" + nines(100).Num + " + " + nines(100).Num},
		{tower(1, omega()), "w^(w)"}, {w(omega(), fin(2), fin(0)), "w^(w)*2"}, {w(omega(), fin(1), fin(1)), "w^(w) + 1"}, {w(omega(), fin(3), omega()), "w^(w)*3 + w"},
		{tower(1, ww(1, 1, 1)), "w^(w + 1)"}, {tower(1, ww(1, 2, 0)), "w^(w*2)"}, {w(ww(2, 3, 4), fin(5), w(omega(), fin(6), ww(7, 8, 9))), "w^(w^2*3 + 4)*5 + w^(w)*6 + w^7*8 + 9"},
		{tower(2, omega()), "w^(w^(w))"}, {tower(3, fin(2)), "w^(w^(w^2))"}, {tower(2, w(omega(), fin(2), fin(1))), "w^(w^(w^(w)*2 + 1))"},
		{w(tower(1, omega()), fin(2), w(tower(1, fin(3)), fin(1), omega())), "w^(w^(w))*2 + w^(w^3) + w"},
	} {
		if got := Format(c.o); got != c.want {
			t.Errorf("Format(%s): %q, want %q", show(c.o), got, c.want)
		}
	}
}

func TestFormatOfLargeOrdinals(t *testing.T) {
	n := mostTerms - 1
	want := strings.Repeat("w^(", n) + "w" + strings.Repeat(")", n)
	if got := Format(tower(n+1, fin(1))); got != want {
		t.Error("Format of a high tower")
	}
	terms := []string{}
	for e := mostTerms; e > 1; e-- {
		terms = append(terms, "w^"+fin(e).Num)
	}
	if got := Format(row(mostTerms, 1, fin(2))); got != strings.Join(append(terms, "w", "2"), " + ") {
		t.Error("Format of a long sum")
	}
}

// TestFormatsAreDifferent: two ordinals have two texts.
func TestFormatsAreDifferent(t *testing.T) {
	for _, l := range [][]api.Object{ladder(), further()} {
		texts := map[string]bool{}
		for _, o := range l {
			texts[Format(o)] = true
		}
		if len(texts) != len(l) {
			t.Errorf("%d ordinals have %d texts", len(l), len(texts))
		}
	}
}

func TestFormatOfOtherObjects(t *testing.T) {
	for _, o := range slices.Concat(notOrdinals(), []api.Object{{}}) {
		if got := Format(o); got != "" {
			t.Errorf("Format(%s): %q", show(o), got)
		}
	}
}
