package tensor_test

import (
	"testing"

	"pintle/tensor"
)

var good = [][3]int{{1, 1, 1}, {2, 3, 4}, {64, 64, 4}, {1, 1, 64}, {64, 1, 64}, {16, 16, 64}, {64, 16, 16}, {7, 1, 5}}

var bad = [][3]int{{}, {0, 1, 1}, {1, 0, 1}, {1, 1, 0}, {-1, 1, 1}, {-1, -1, 1}, {65, 1, 1}, {1, 65, 1}, {1, 1, 65}, {64, 64, 5}, {64, 64, 64}, {1 << 62, 1 << 62, 1 << 62}, {-1 << 63, 1, 1}, {16, 16, 65}, {17, 16, 64}}

// P21.1
func TestGoodAndSize(t *testing.T) {
	for _, s := range good {
		if !tensor.Good(s) || tensor.Size(s) != s[0]*s[1]*s[2] {
			t.Error(s, tensor.Size(s))
		}
	}
	for _, s := range bad {
		if tensor.Good(s) || tensor.Size(s) != 0 {
			t.Error(s, tensor.Size(s))
		}
	}
}

// P21.2, P21.4
func TestAtAndOf(t *testing.T) {
	if i, ok := tensor.At([3]int{2, 3, 4}, 1, 2, 3); i != 23 || !ok {
		t.Error(i, ok)
	}
	for _, s := range good {
		i := 0
		for y := range s[0] {
			for x := range s[1] {
				for c := range s[2] {
					at, ok := tensor.At(s, y, x, c)
					of, there := tensor.Of(s, i)
					if at != i || !ok || of != [3]int{y, x, c} || !there {
						t.Fatal(s, y, x, c, at, of)
					}
					i++
				}
			}
		}
		for _, n := range []int{-1, -1 << 63, i, i + 1, 1<<63 - 1} {
			if of, ok := tensor.Of(s, n); of != [3]int{} || ok {
				t.Error(s, n, of)
			}
		}
		for k := range 3 {
			for _, n := range []int{-1, s[k], 1 << 62, -1 << 63} {
				var e [3]int
				e[k] = n
				if at, ok := tensor.At(s, e[0], e[1], e[2]); at != 0 || ok {
					t.Error(s, e, at)
				}
			}
		}
	}
	for _, s := range bad {
		at, ok := tensor.At(s, 0, 0, 0)
		of, there := tensor.Of(s, 0)
		if at != 0 || ok || of != [3]int{} || there {
			t.Error(s)
		}
	}
}

// P21.3
func TestJoin(t *testing.T) {
	for i, x := range []struct {
		a, b, want [3]int
		ok         bool
	}{
		{[3]int{2, 3, 4}, [3]int{2, 3, 5}, [3]int{2, 3, 9}, true}, {[3]int{1, 1, 63}, [3]int{1, 1, 1}, [3]int{1, 1, 64}, true}, {[3]int{1, 1, 64}, [3]int{1, 1, 1}, [3]int{}, false}, {[3]int{64, 64, 2}, [3]int{64, 64, 2}, [3]int{64, 64, 4}, true}, {[3]int{64, 64, 2}, [3]int{64, 64, 3}, [3]int{}, false},
		{[3]int{2, 3, 4}, [3]int{3, 3, 4}, [3]int{}, false}, {[3]int{2, 3, 4}, [3]int{2, 4, 4}, [3]int{}, false}, {[3]int{2, 3, 0}, [3]int{2, 3, 4}, [3]int{}, false}, {[3]int{2, 3, 4}, [3]int{2, 3, -1}, [3]int{}, false}, {[3]int{2, 3, 1<<63 - 1}, [3]int{2, 3, 4}, [3]int{}, false},
	} {
		if got, ok := tensor.Join(x.a, x.b); got != x.want || ok != x.ok {
			t.Error(i, got, ok)
		}
	}
}
