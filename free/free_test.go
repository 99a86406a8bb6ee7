package free_test

import (
	"math"
	"math/rand"
	"reflect"
	"testing"

	"colloquy/api"
	"colloquy/free"
)

// model tells of each word whether it is free.
type model []bool

func (m model) runs() [][2]int {
	var l [][2]int
	for at := 0; at < len(m); at++ {
		if m[at] && (at == 0 || !m[at-1]) {
			n := 0
			for at+n < len(m) && m[at+n] {
				n++
			}
			l = append(l, [2]int{at, n})
		}
	}
	return l
}

func (m model) take(n int) (int, bool) {
	best := -1
	runs := m.runs()
	for i, r := range runs {
		if r[1] >= n && (best < 0 || r[1] < runs[best][1]) {
			best = i
		}
	}
	if n < 1 || best < 0 {
		return 0, false
	}
	at := runs[best][0]
	for i := range n {
		m[at+i] = false
	}
	return at, true
}

func (m model) give(at, n int) bool {
	if n < 1 || at < 0 || at+n > len(m) {
		return false
	}
	for i := range n {
		if m[at+i] {
			return false
		}
	}
	for i := range n {
		m[at+i] = true
	}
	return true
}

func look(t *testing.T, f *free.Free, m model) {
	t.Helper()
	words, longest := 0, 0
	for at, open := range m {
		if f.Is(at) != open {
			t.Fatalf("Is(%d) is %v", at, !open)
		}
		if open {
			words++
		}
	}
	runs := m.runs()
	for _, r := range runs {
		longest = max(longest, r[1])
	}
	got := f.Runs()
	if len(got) != len(runs) || len(runs) > 0 && !reflect.DeepEqual(got, runs) {
		t.Fatalf("runs %v, not %v", got, runs)
	}
	if f.Words() != words || f.Longest() != longest {
		t.Fatalf("%d words, longest %d, not %d, %d", f.Words(), f.Longest(), words, longest)
	}
}

// P4.1: how many words there are.
func TestNew(t *testing.T) {
	for _, x := range []struct{ n, want int }{{0, 0}, {-1, 0}, {math.MinInt, 0}, {10, 10}, {api.MaxWords, api.MaxWords}, {api.MaxWords + 1, api.MaxWords}, {math.MaxInt, api.MaxWords}} {
		f := free.New(x.n)
		if f.Words() != x.want || f.Longest() != x.want {
			t.Errorf("New(%d): %d words, longest %d", x.n, f.Words(), f.Longest())
		}
		if f.Is(x.want) || f.Is(-1) || f.Is(math.MaxInt) || f.Is(math.MinInt) {
			t.Errorf("New(%d): a word beyond is free", x.n)
		}
	}
	if free.New(0).Runs() != nil {
		t.Error("a run of no words")
	}
}

// P4.1: the chapter's example, and the lowest of the shortest runs.
func TestShortest(t *testing.T) {
	f := free.New(10)
	for _, x := range []struct{ n, at int }{{3, 0}, {4, 3}} {
		if at, ok := f.Take(x.n); at != x.at || !ok {
			t.Fatalf("Take(%d) is %d, %v", x.n, at, ok)
		}
	}
	if !f.Give(0, 3) {
		t.Fatal("Give(0, 3)")
	}
	if at, ok := f.Take(2); at != 0 || !ok {
		t.Fatalf("of two runs of three: %d, %v", at, ok)
	}
	if at, ok := f.Take(1); at != 2 || !ok {
		t.Fatalf("the shortest run: %d, %v", at, ok)
	}
	if at, ok := f.Take(4); at != 0 || ok {
		t.Fatalf("more than any run has: %d, %v", at, ok)
	}
	if at, ok := f.Take(3); at != 7 || !ok {
		t.Fatalf("all there is: %d, %v", at, ok)
	}
	if at, ok := f.Take(1); at != 0 || ok {
		t.Fatalf("of none: %d, %v", at, ok)
	}
}

// P4.1: what may not be taken or given is refused, and turns nothing.
func TestRefused(t *testing.T) {
	f, m := free.New(10), make(model, 10)
	for i := range m {
		m[i] = true
	}
	f.Take(6)
	m.take(6)
	for _, n := range []int{0, -1, 5, 11, math.MaxInt, math.MinInt} {
		if at, ok := f.Take(n); at != 0 || ok {
			t.Errorf("Take(%d) is %d, %v", n, at, ok)
		}
	}
	for _, x := range [][2]int{{0, 0}, {0, -1}, {-1, 1}, {-1, 3}, {5, 2}, {6, 1}, {9, 2}, {10, 1}, {0, 11}, {0, math.MaxInt}, {math.MaxInt, math.MaxInt}, {math.MaxInt, 1}, {math.MinInt, 1}, {1, math.MinInt}} {
		if f.Give(x[0], x[1]) {
			t.Errorf("Give(%d, %d)", x[0], x[1])
		}
	}
	look(t, f, m)
}

// P4.2: what is answered is new memory.
func TestRunsAreNew(t *testing.T) {
	f := free.New(5)
	f.Runs()[0] = [2]int{3, 1}
	if got := f.Runs(); got[0] != [2]int{0, 5} {
		t.Errorf("runs %v", got)
	}
}

// P4.1, P4.2: as a list of words does.
func TestAsModel(t *testing.T) {
	r := rand.New(rand.NewSource(4))
	for range 60 {
		n := r.Intn(70)
		f, m := free.New(n), make(model, n)
		for i := range m {
			m[i] = true
		}
		for range 200 {
			if r.Intn(2) == 0 {
				k := r.Intn(12) - 1
				at, ok := f.Take(k)
				if at1, ok1 := m.take(k); at != at1 || ok != ok1 {
					t.Fatalf("Take(%d) is %d, %v, not %d, %v", k, at, ok, at1, ok1)
				}
			} else {
				at, k := r.Intn(n+3)-1, r.Intn(10)-1
				ok := f.Give(at, k)
				if ok1 := m.give(at, k); ok != ok1 {
					t.Fatalf("Give(%d, %d) is %v", at, k, ok)
				}
			}
			look(t, f, m)
		}
	}
}

// P4.3: what is taken is not taken twice; all given back is one run again.
func TestOneRunAgain(t *testing.T) {
	r := rand.New(rand.NewSource(5))
	f := free.New(1000)
	var had [][2]int
	seen := map[int]int{}
	for {
		n := r.Intn(30) + 1
		at, ok := f.Take(n)
		if !ok {
			break
		}
		had = append(had, [2]int{at, n})
		for i := range n {
			seen[at+i]++
			if seen[at+i] > 1 {
				t.Fatalf("word %d is taken twice", at+i)
			}
		}
	}
	r.Shuffle(len(had), func(i, j int) { had[i], had[j] = had[j], had[i] })
	for _, x := range had {
		if !f.Give(x[0], x[1]) {
			t.Fatalf("Give(%d, %d)", x[0], x[1])
		}
	}
	if got := f.Runs(); len(got) != 1 || got[0] != [2]int{0, 1000} || f.Words() != 1000 || f.Longest() != 1000 {
		t.Errorf("runs %v", got)
	}
}
