package whole

import "testing"

func TestDiv(t *testing.T) {
	for _, x := range [][3]int{{7, 2, 3}, {-7, 2, -4}, {-8, 2, -4}, {0, 5, 0}, {-1, 1 << 40, -1}} {
		if got := Div(x[0], x[1]); got != x[2] {
			t.Error(x, got)
		}
	}
}

func TestHold(t *testing.T) {
	if Hold(5, 0, 3) != 3 || Hold(-5, 0, 3) != 0 || Hold(2, 0, 3) != 2 {
		t.Error("hold")
	}
	if !Within(3, 3, 3) || Within(4, 3, 3) || Within(2, 3, 3) {
		t.Error("within")
	}
}
