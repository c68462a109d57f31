// Package words knows the words of the language of processors.
package words

import "soundpost/lex"

// Is reports whether a string is a word.
func Is(s string) bool {
	switch s {
	case "processor", "latency", "tail", "forever", "param", "state", "line", "table", "from", "to", "let", "set", "push", "out",
		"if", "then", "else", "in", "side", "tap", "look", "sat", "min", "max", "abs":
		return true
	}
	return false
}

// Name reports whether a string is a name that is no word.
func Name(s string) bool { return lex.Name(s) && !Is(s) }
