package format

// fourShifts has for each number of four bits what the checksum's register becomes when only they stand in it
// and it is shifted four times. Bit by bit, a long body would take more than twice the time.
var fourShifts = [16]uint32{
	0x00000000, 0x1DB71064, 0x3B6E20C8, 0x26D930AC,
	0x76DC4190, 0x6B6B51F4, 0x4DB26158, 0x5005713C,
	0xEDB88320, 0xF00F9344, 0xD6D6A3E8, 0xCB61B38C,
	0x9B64C2B0, 0x86D3D2D4, 0xA00AE278, 0xBDBDF21C,
}

// shiftFour shifts the register four times.
func shiftFour(register uint32) uint32 {
	return register>>4 ^ fourShifts[register&15]
}
