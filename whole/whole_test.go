package whole

import (
	"math"
	"testing"
)

func TestDiv(t *testing.T) {
	for _, x := range [][3]int{{7, 2, 3}, {-7, 2, -4}, {-8, 2, -4}, {0, 5, 0}, {-1, 1 << 40, -1}} {
		if got := Div(x[0], x[1]); got != x[2] {
			t.Error(x, got)
		}
	}
}

func TestHold(t *testing.T) {
	if Hold(5, 0, 3) != 3 || Hold(-5, 0, 3) != 0 || Hold(2, 0, 3) != 2 {
		t.Error("hold")
	}
	if !Within(3, 3, 3) || Within(4, 3, 3) || Within(2, 3, 3) {
		t.Error("within")
	}
}

func TestSaturated(t *testing.T) {
	for i, x := range [][2]int{
		{Add(math.MaxInt, 1), math.MaxInt}, {Add(math.MinInt, -1), math.MinInt}, {Add(math.MaxInt, math.MinInt), -1}, {Add(3, -5), -2},
		{Mul(1<<62, 2), math.MaxInt}, {Mul(-1<<62, 2), math.MinInt}, {Mul(1<<62, 4), math.MaxInt}, {Mul(math.MinInt, math.MinInt), math.MaxInt},
		{Mul(-3, 7), -21}, {Mul(-3, -7), 21}, {Mul(1<<31, -1<<31), -1 << 62}, {Mul(0, math.MinInt), 0}, {Mul(1, math.MinInt), math.MinInt},
	} {
		if x[0] != x[1] {
			t.Error(i, x)
		}
	}
}
