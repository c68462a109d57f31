package words

import "testing"

func TestName(t *testing.T) {
	for s, want := range map[string]bool{"in": false, "inn": true, "": false, "processor latency": false, "max": false, "a_1": true, "_a": false} {
		if Name(s) != want {
			t.Error(s)
		}
	}
	if !Is("forever") || Is("") || Is("forever state") {
		t.Error("words")
	}
}
