package engine

import (
	"sync"

	"winnow/api"
	"winnow/code"
)

// script is a program that is kept as bytes till it is asked for: the machine has one of its own.
type script struct {
	once    sync.Once
	bytes   []byte
	program api.Program
}

// read tells the program, which is not to be changed. Twins share a script, and each may be asked by a goroutine of its own: whoever is first reads it for all.
func (s *script) read() api.Program {
	s.once.Do(func() {
		// Load has read these bytes already: there is no fault in them.
		s.program, _ = code.Decode(s.bytes)
		s.bytes = nil
	})
	return s.program
}
